/- Contracts of the document's WordKind and Quoted. Conditions: texts within the reach. -/
import Derived.Laws.MakeOwn
import Derived.Lib.AppendStr
import Derived.OwnWalk
import Derived.Test.YtphhokpbkcdljaaDoorLexK
namespace Go.Proofs.YtphhokpbkcdljaaDoor
open Go Go.RowKit
theorem headD_drop (s : ByteArray) (h : 0 < s.size) : s.data.toList.headD 0 = s[0] := by
  have := drop_cons s h
  rw [List.drop_zero] at this
  rw [this]; rfl
set_option maxRecDepth 100000 in
set_option maxHeartbeats 8000000 in
theorem ref_wordkind (s : ByteArray) (h0 : 0 < s.size) (w : World) :
    Calls Tryd.prog 52 #[.string s] w fun e w' => e = .returned (.int .i64 (kindW s.data.toList : Nat)) ∧ Below w.heap.size w w' := by
  have HK := Lib.hid (ref_keys w)
  have HL := Lib.hid (btw_lg s[0])
  obtain ⟨res, hr⟩ : ∃ res, kindW s.data.toList = res := ⟨_, rfl⟩
  have hr2 := hr
  unfold kindW at hr2
  rw [headD_drop s h0] at hr2
  rw [hr]
  clear hr
  by_cases hk : s.data.toList ∈ keysL
  · rw [if_pos hk] at hr2
    have HR := Lib.hid hr2
    have HH := Lib.hid (fun (W1 : World) (a : Option Addr) (h : SV W1 a 26 keysL) => show Calls _ _ _ W1 (fun e w' => e = .returned (.bool true) ∧ w' = W1) from (ref_has (c := 26) h s).mono fun e w' ⟨h1, h2⟩ => ⟨by rw [h1, decide_eq_true hk], h2⟩)
    clear hk hr2
    go_enter Tryd.func52, Tryd.ntmps52
    go_wp2_with fail
    refine (HK.out).mono ?_
    rintro e w1 ⟨rfl, hsv, hb⟩
    have HB := Lib.hid hb
    have HS := Lib.hid hsv
    clear hb hsv
    go_wp2_with fail
    refine (HH.out _ _ HS.out).mono ?_
    rintro e w1 ⟨rfl, hw1⟩
    subst w1
    go_wp2_with fail
    go_ret
    exact ⟨ret_intL (by rw [← HR.out]; rfl), HB.out⟩
  · rw [if_neg hk] at hr2
    have HH := Lib.hid (fun (W1 : World) (a : Option Addr) (h : SV W1 a 26 keysL) => show Calls _ _ _ W1 (fun e w' => e = .returned (.bool false) ∧ w' = W1) from (ref_has (c := 26) h s).mono fun e w' ⟨h1, h2⟩ => ⟨by rw [h1, decide_eq_false hk], h2⟩)
    have hb : ∀ l : List UInt8, (s.toList == l) = decide (s.data.toList = l) ∧ (l == s.toList) = decide (s.data.toList = l) := fun l => by
      rw [Lib.toList_data]
      refine ⟨by by_cases q : s.data.toList = l <;> simp [q], ?_⟩
      by_cases q : s.data.toList = l
      · rw [q]; simp
      · rw [decide_eq_false q, beq_eq_false_iff_ne]; exact fun e => q e.symm
    have B1 := hb [116, 114, 117, 101]
    have B2 := hb [102, 97, 108, 115, 101]
    have B3 := hb [110, 105, 108]
    clear hb hk
    have hcap : s.data.toList ∈ capsL ↔ s.data.toList = [116, 114, 117, 101] ∨ s.data.toList = [102, 97, 108, 115, 101] ∨ s.data.toList = [110, 105, 108] := by simp [capsL]
    obtain ⟨y, hy⟩ : ∃ y, isLg s[0] = y := ⟨_, rfl⟩
    rw [hy] at HL hr2
    obtain ⟨b1, hb1⟩ : ∃ b, decide (s.data.toList = [116, 114, 117, 101]) = b := ⟨_, rfl⟩
    obtain ⟨b2, hb2⟩ : ∃ b, decide (s.data.toList = [102, 97, 108, 115, 101]) = b := ⟨_, rfl⟩
    obtain ⟨b3, hb3⟩ : ∃ b, decide (s.data.toList = [110, 105, 108]) = b := ⟨_, rfl⟩
    have hres : (if (y || (b1 || (b2 || b3))) = true then 4 else 3) = res := by
      rw [← hr2]
      have : (y || (b1 || (b2 || b3))) = true ↔ (y = true ∨ s.data.toList ∈ capsL) := by
        rw [hcap, ← hb1, ← hb2, ← hb3]
        simp
      by_cases q : (y || (b1 || (b2 || b3))) = true
      · rw [if_pos q, if_pos (this.1 q)]
      · rw [if_neg q, if_neg (fun h => q (this.2 h))]
    rw [hb1] at B1
    rw [hb2] at B2
    rw [hb3] at B3
    obtain ⟨B1, B1'⟩ := B1
    obtain ⟨B2, B2'⟩ := B2
    obtain ⟨B3, B3'⟩ := B3
    have HR := Lib.hid hres
    clear hr2 hy hb1 hb2 hb3 hcap hres
    cases y
    · cases b1
      · cases b2
        · cases b3
          all_goals
            go_enter Tryd.func52, Tryd.ntmps52
            go_wp2_with fail
            refine (HK.out).mono ?_
            rintro e w1 ⟨rfl, hsv, hb⟩
            have HB := Lib.hid hb
            have HS := Lib.hid hsv
            clear hb hsv
            go_wp2_with fail
            refine (HH.out _ _ HS.out).mono ?_
            rintro e w1 ⟨rfl, hw1⟩
            subst w1
            go_wp2_with fail
            refine (HL.out _).mono ?_
            rintro e w1 ⟨rfl, hw1⟩
            subst w1
            go_wp2_with fail
            go_ret
            exact ⟨ret_intL (by rw [← HR.out]; rfl), HB.out⟩
        · go_enter Tryd.func52, Tryd.ntmps52
          go_wp2_with fail
          refine (HK.out).mono ?_
          rintro e w1 ⟨rfl, hsv, hb⟩
          have HB := Lib.hid hb
          have HS := Lib.hid hsv
          clear hb hsv
          go_wp2_with fail
          refine (HH.out _ _ HS.out).mono ?_
          rintro e w1 ⟨rfl, hw1⟩
          subst w1
          go_wp2_with fail
          refine (HL.out _).mono ?_
          rintro e w1 ⟨rfl, hw1⟩
          subst w1
          go_wp2_with fail
          go_ret
          exact ⟨ret_intL (by rw [← HR.out]; rfl), HB.out⟩
      · go_enter Tryd.func52, Tryd.ntmps52
        go_wp2_with fail
        refine (HK.out).mono ?_
        rintro e w1 ⟨rfl, hsv, hb⟩
        have HB := Lib.hid hb
        have HS := Lib.hid hsv
        clear hb hsv
        go_wp2_with fail
        refine (HH.out _ _ HS.out).mono ?_
        rintro e w1 ⟨rfl, hw1⟩
        subst w1
        go_wp2_with fail
        refine (HL.out _).mono ?_
        rintro e w1 ⟨rfl, hw1⟩
        subst w1
        go_wp2_with fail
        go_ret
        exact ⟨ret_intL (by rw [← HR.out]; rfl), HB.out⟩
    · go_enter Tryd.func52, Tryd.ntmps52
      go_wp2_with fail
      refine (HK.out).mono ?_
      rintro e w1 ⟨rfl, hsv, hb⟩
      have HB := Lib.hid hb
      have HS := Lib.hid hsv
      clear hb hsv
      go_wp2_with fail
      refine (HH.out _ _ HS.out).mono ?_
      rintro e w1 ⟨rfl, hw1⟩
      subst w1
      go_wp2_with fail
      refine (HL.out _).mono ?_
      rintro e w1 ⟨rfl, hw1⟩
      subst w1
      go_wp2_with fail
      go_ret
      exact ⟨ret_intL (by rw [← HR.out]; rfl), HB.out⟩
end Go.Proofs.YtphhokpbkcdljaaDoor
