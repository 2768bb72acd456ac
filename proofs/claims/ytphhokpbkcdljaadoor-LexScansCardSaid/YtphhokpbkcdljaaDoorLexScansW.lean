/- The walk of the statement LexScans: it returns true. Conditions: the text is within the reach; the tables are as laid. -/
import Derived.Test.YtphhokpbkcdljaaDoorLexKn
import Derived.Test.YtphhokpbkcdljaaDoorLexSm
namespace Go.Proofs.YtphhokpbkcdljaaDoor
open Go Go.RowKit
theorem sameT_refl (p : Bool) (xs : List TkB) : sameT p xs xs = true := by unfold sameT; simp
set_option maxRecDepth 100000 in
set_option maxHeartbeats 8000000 in
theorem lexScans_walk (s : ByteArray) (hs : s.size ≤ 140737488351232) (w : World) (hT : LTab w) : Calls Tryd.prog 3 #[.string s] w fun e w' => e = .returned (.bool true) ∧ Below w.heap.size w w' := by
  have HT := Lib.hid hT
  have HL := Lib.hid (long_any s)
  have HK := Lib.hid lknown_any
  clear hT
  cases hl : (decide (500 < s.size) && decide (s.size ≤ 4096)) with
  | true =>
    rw [hl] at HL
    clear hl
    go_enter Tryd.func3, Tryd.ntmps3
    go_wp2_with fail
    refine (HL.out _).mono ?_
    rintro e w1 ⟨rfl, hw1⟩
    subst w1
    go_wp2_with fail
    refine (HK.out _ HT.out).mono ?_
    rintro e w2 ⟨rfl, hb2⟩
    have HB := Lib.hid hb2
    clear hb2
    go_wp2_with fail
    go_ret
    exact ⟨rfl, HB.out⟩
  | false =>
    rw [hl] at HL
    have HS := Lib.hid (scan_tks s hs)
    have HR := Lib.hid (ref_tks s hs)
    obtain ⟨r, hr⟩ : ∃ r, scanTop s.data.toList = r := ⟨_, rfl⟩
    rw [hr] at HS HR
    clear hl hr
    go_enter Tryd.func3, Tryd.ntmps3
    go_wp2_with fail
    refine (HL.out _).mono ?_
    rintro e w1 ⟨rfl, hw1⟩
    subst w1
    go_wp2_with fail
    refine (HS.out _ HT.out.x).mono ?_
    rintro e w2 ⟨⟨A, ca, rfl, hca, ht⟩, hb2⟩
    have H2 := Lib.hid (And.intro ht hb2)
    clear ht hb2
    go_wp2_with fail
    refine (HR.out _).mono ?_
    rintro e w3 ⟨⟨A3, ca3, rfl, hca3, ht⟩, hb3⟩
    have H3 := Lib.hid (And.intro ((H2.out.1.below hb3).mono hb3.size) (And.intro ht (H2.out.2.trans (hb3.mono H2.out.2.size))))
    clear ht hb3
    have HSM := Lib.hid (same_any A A3 ca ca3 (toks r) (toks r) true w3 H3.out.1 H3.out.2.1)
    rw [sameT_refl] at HSM
    go_wp2_with fail
    refine (HSM.out).mono ?_
    rintro e w4 ⟨rfl, hb4⟩
    have H4 := Lib.hid (H3.out.2.2.trans (hb4.mono H3.out.2.2.size))
    clear hb4
    go_wp2_with fail
    refine (HK.out _ (HT.out.stay H4.out)).mono ?_
    rintro e w5 ⟨rfl, hb5⟩
    have H5 := Lib.hid (H4.out.trans (hb5.mono H4.out.size))
    clear hb5
    go_wp2_with fail
    go_ret
    exact ⟨rfl, H5.out⟩
end Go.Proofs.YtphhokpbkcdljaaDoor
