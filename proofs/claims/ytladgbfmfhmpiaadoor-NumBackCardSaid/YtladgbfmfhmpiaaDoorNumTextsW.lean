/- The walk of the statement NumTexts: it returns true. Condition: the library's table of powers of ten reads as it is laid. -/
import Derived.Test.YtladgbfmfhmpiaaDoorTextB
import Derived.Test.YtladgbfmfhmpiaaDoorKnown
namespace Go.Proofs.YtladgbfmfhmpiaaDoor
open Go Go.RowKit
theorem parse_no2 (s : ByteArray) (hn : NotS s) (w : World) (ht : Tab w) (hs : s.size ≤ 140737488351232) :
    Calls Tryd.prog 31 #[.string s] w fun e w' => e = .returned (.tuple #[.int .i64 0, .int .i64 11]) ∧ Below w.heap.size w w' := parse_no s hn w ht hs
theorem refparse_no2 (s : ByteArray) (hn : NotS s) (w : World) :
    Calls Tryd.prog 32 #[.string s] w fun e w' => e = .returned (.tuple #[.int .i64 0, .int .i64 11]) ∧ Below w.heap.size w w' := refparse_no s hn w
theorem below_tr {w w1 w2 : World} (h : Below w.heap.size w w1) (k : Below w1.heap.size w1 w2) : Below w.heap.size w w2 := h.trans (k.mono h.size)
set_option maxHeartbeats 2000000 in
theorem numTexts_yes (n : Int) (s : ByteArray) (h0 : -9223372036854775808 ≤ n) (h1 : n ≤ 9223372036854775807) (hs : s.size ≤ 140737488351232) (m : Int) (hd : Dec s m) (w : World) (ht : Tab w) :
    Calls Tryd.prog 8 #[.int .i64 n, .string s] w fun e w' => e = .returned (.bool true) ∧ Below w.heap.size w w' := by
  have HT := Lib.hid ht
  have HD := Lib.hid hd
  clear ht hd
  go_enter Tryd.func8, Tryd.ntmps8
  go_wp2_with fail
  refine (parse_yes s m HD.out _ HT.out hs).mono ?_
  rintro e w1 ⟨rfl, hb1⟩
  have HB1 := Lib.hid hb1
  have HT1 := Lib.hid (tab_below HT.out (Nat.le_refl _) hb1)
  clear hb1
  go_wp2_with fail
  refine (refparse_yes s m HD.out _).mono ?_
  rintro e w2 ⟨rfl, hb2⟩
  have HB2 := Lib.hid (below_tr HB1.out hb2)
  have HT2 := Lib.hid (tab_below HT1.out (Nat.le_refl _) hb2)
  clear hb2
  go_wp2_with fail
  refine (text_any n h0 h1 _ HT2.out).mono ?_
  rintro e w3 ⟨rfl, hb3⟩
  have HB3 := Lib.hid (below_tr HB2.out hb3)
  have HT3 := Lib.hid (tab_below HT2.out (Nat.le_refl _) hb3)
  clear hb3
  go_wp2_with fail
  refine (reftext_any n h0 h1 _).mono ?_
  rintro e w4 ⟨rfl, hb4⟩
  have HB4 := Lib.hid (below_tr HB3.out hb4)
  have HT4 := Lib.hid (tab_below HT3.out (Nat.le_refl _) hb4)
  clear hb4
  go_wp2_with fail
  refine (known_any _ HT4.out).mono ?_
  rintro e w5 ⟨rfl, hb5⟩
  go_wp2_with fail
  go_ret
  exact ⟨rfl, below_tr HB4.out hb5⟩
set_option maxHeartbeats 2000000 in
theorem numTexts_no (n : Int) (s : ByteArray) (h0 : -9223372036854775808 ≤ n) (h1 : n ≤ 9223372036854775807) (hs : s.size ≤ 140737488351232) (hd : NotS s) (w : World) (ht : Tab w) :
    Calls Tryd.prog 8 #[.int .i64 n, .string s] w fun e w' => e = .returned (.bool true) ∧ Below w.heap.size w w' := by
  have HT := Lib.hid ht
  have HD := Lib.hid hd
  clear ht hd
  go_enter Tryd.func8, Tryd.ntmps8
  go_wp2_with fail
  refine (parse_no2 s HD.out _ HT.out hs).mono ?_
  rintro e w1 ⟨rfl, hb1⟩
  have HB1 := Lib.hid hb1
  have HT1 := Lib.hid (tab_below HT.out (Nat.le_refl _) hb1)
  clear hb1
  go_wp2_with fail
  refine (refparse_no2 s HD.out _).mono ?_
  rintro e w2 ⟨rfl, hb2⟩
  have HB2 := Lib.hid (below_tr HB1.out hb2)
  have HT2 := Lib.hid (tab_below HT1.out (Nat.le_refl _) hb2)
  clear hb2
  go_wp2_with fail
  refine (text_any n h0 h1 _ HT2.out).mono ?_
  rintro e w3 ⟨rfl, hb3⟩
  have HB3 := Lib.hid (below_tr HB2.out hb3)
  have HT3 := Lib.hid (tab_below HT2.out (Nat.le_refl _) hb3)
  clear hb3
  go_wp2_with fail
  refine (reftext_any n h0 h1 _).mono ?_
  rintro e w4 ⟨rfl, hb4⟩
  have HB4 := Lib.hid (below_tr HB3.out hb4)
  have HT4 := Lib.hid (tab_below HT3.out (Nat.le_refl _) hb4)
  clear hb4
  go_wp2_with fail
  refine (known_any _ HT4.out).mono ?_
  rintro e w5 ⟨rfl, hb5⟩
  go_wp2_with fail
  go_ret
  exact ⟨rfl, below_tr HB4.out hb5⟩
theorem numTexts_walk (n : Int) (s : ByteArray) (h0 : -9223372036854775808 ≤ n) (h1 : n ≤ 9223372036854775807) (hs : s.size ≤ 140737488351232) (w : World) (ht : Tab w) :
    Calls Tryd.prog 8 #[.int .i64 n, .string s] w fun e w' => e = .returned (.bool true) ∧ Below w.heap.size w w' := by
  by_cases h : ∃ m, Dec s m
  · obtain ⟨m, hm⟩ := h
    exact numTexts_yes n s h0 h1 hs m hm w ht
  · exact numTexts_no n s h0 h1 hs (fun m hf he => h ⟨m, hf, he⟩) w ht
end Go.Proofs.YtladgbfmfhmpiaaDoor
