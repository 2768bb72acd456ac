/- The walk of the statement NumBack: it returns true. Condition: the library's table of powers of ten reads as it is laid. -/
import Derived.Test.YtladgbfmfhmpiaaDoorNumTextsW
import Derived.Test.YtladgbfmfhmpiaaDoorTo
import Derived.Test.YtladgbfmfhmpiaaDoorKnown
namespace Go.Proofs.YtladgbfmfhmpiaaDoor
open Go Go.RowKit
theorem itoa_inj {m n : Int} (h : Lib.itoa m = Lib.itoa n) : m = n := by
  have hd : ∀ u : Nat, ∃ c r, Lib.decDigits u = c :: r ∧ isDig c := by
    intro u
    cases e : Lib.decDigits u with
    | nil => exact (dec_ne u e).elim
    | cons c r => exact ⟨c, r, rfl, dec_dig u c (by rw [e]; simp)⟩
  have hv : ∀ u v : Nat, Lib.decDigits u = Lib.decDigits v → u = v := by
    intro u v e
    rw [← dec_val u, ← dec_val v, e]
  have h45 : ¬ isDig 45 := by unfold isDig; decide
  by_cases hm : 0 ≤ m <;> by_cases hn : 0 ≤ n
  · rw [itoa_pos hm, itoa_pos hn] at h
    have := hv _ _ h
    omega
  · rw [itoa_pos hm, itoa_neg' (by omega)] at h
    obtain ⟨c, r, e, hc⟩ := hd m.toNat
    rw [e] at h
    injection h with h1 h2
    subst h1
    exact (h45 hc).elim
  · rw [itoa_neg' (by omega), itoa_pos hn] at h
    obtain ⟨c, r, e, hc⟩ := hd n.toNat
    rw [e] at h
    injection h with h1 h2
    subst h1
    exact (h45 hc).elim
  · rw [itoa_neg' (by omega), itoa_neg' (by omega)] at h
    injection h with h1 h2
    have := hv _ _ h2
    omega
theorem itoa_size (n : Int) (h0 : -9223372036854775808 ≤ n) (h1 : n ≤ 9223372036854775807) : (ByteArray.mk (Lib.itoa n).toArray).size ≤ 140737488351232 := by
  have hp : (10 : Nat) ^ 20 = 100000000000000000000 := by decide
  show (Lib.itoa n).toArray.size ≤ _
  simp only [List.size_toArray]
  by_cases h : 0 ≤ n
  · rw [itoa_pos h]
    have := dec_len 20 n.toNat (by decide) (by omega)
    omega
  · rw [itoa_neg' (by omega)]
    have := dec_len 20 n.natAbs (by decide) (by omega)
    simp; omega
theorem dec_self {n : Int} (hf : fits n) : Dec ⟨(Lib.itoa n).toArray⟩ n := ⟨hf, by simp⟩
theorem not_self {n : Int} (hf : ¬ fits n) : NotS ⟨(Lib.itoa n).toArray⟩ := by
  intro m hm he
  have : Lib.itoa m = Lib.itoa n := by simpa using he
  rw [itoa_inj this] at hm
  exact hf hm
theorem fitB_yes {n : Int} (h : fits n) : fitB n = true := by unfold fitB; rw [decide_eq_true_eq]; exact h
theorem fitB_no {n : Int} (h : ¬ fits n) : fitB n = false := by unfold fitB; rw [decide_eq_false_iff_not]; exact h
set_option maxHeartbeats 2000000 in
theorem numBack_yy (n : Int) (s : ByteArray) (h0 : -9223372036854775808 ≤ n) (h1 : n ≤ 9223372036854775807) (hs : s.size ≤ 140737488351232) (hf : fits n) (m : Int) (hd : Dec s m) (w : World) (ht : Tab w) :
    Calls Tryd.prog 9 #[.int .i64 n, .string s] w fun e w' => e = .returned (.bool true) ∧ Below w.heap.size w w' := by
  have HT := Lib.hid ht
  have HD := Lib.hid hd
  have HF := Lib.hid hf
  have hm0 : -9223372036854775808 ≤ m ∧ m ≤ 9223372036854775807 := by have := hd.1; unfold fits at this; omega
  have HM := Lib.hid hm0
  have HQ := Lib.hid (eq_of hd.2)
  clear hm0
  clear ht hd hf
  go_enter Tryd.func9, Tryd.ntmps9
  go_wp2_with fail
  refine (text_any n h0 h1 _ HT.out).mono ?_
  rintro e w1 ⟨rfl, hb1⟩
  have HB1 := Lib.hid hb1
  have HT1 := Lib.hid (tab_below HT.out (Nat.le_refl _) hb1)
  clear hb1
  go_wp2_with fail
  refine (parse_yes _ n (dec_self HF.out) _ HT1.out (itoa_size n h0 h1)).mono ?_
  rintro e w2 ⟨rfl, hb2⟩
  have HB2 := Lib.hid (below_tr HB1.out hb2)
  have HT2 := Lib.hid (tab_below HT1.out (Nat.le_refl _) hb2)
  clear hb2
  go_wp2_with fail
  refine (fit_to n true (fitB_yes HF.out) _).mono ?_
  rintro e w' ⟨rfl, rfl⟩
  go_wp2_with fail
  refine (parse_yes s m HD.out _ HT2.out hs).mono ?_
  rintro e w3 ⟨rfl, hb3⟩
  have HB3 := Lib.hid (below_tr HB2.out hb3)
  have HT3 := Lib.hid (tab_below HT2.out (Nat.le_refl _) hb3)
  clear hb3
  go_wp2_with fail
  refine (text_any m HM.out.1 HM.out.2 _ HT3.out).mono ?_
  rintro e w4 ⟨rfl, hb4⟩
  have HB4 := Lib.hid (below_tr HB3.out hb4)
  have HT4 := Lib.hid (tab_below HT3.out (Nat.le_refl _) hb4)
  clear hb4
  have hq := HQ.out
  go_wp2_with fail
  refine (fit_to m true (fitB_yes HD.out.1) _).mono ?_
  rintro e w' ⟨rfl, rfl⟩
  go_wp2_with fail
  refine (known_any _ HT4.out).mono ?_
  rintro e w5 ⟨rfl, hb5⟩
  go_wp2_with fail
  go_ret
  exact ⟨rfl, below_tr HB4.out hb5⟩
set_option maxHeartbeats 2000000 in
theorem numBack_yn (n : Int) (s : ByteArray) (h0 : -9223372036854775808 ≤ n) (h1 : n ≤ 9223372036854775807) (hs : s.size ≤ 140737488351232) (hf : fits n) (hd : NotS s) (w : World) (ht : Tab w) :
    Calls Tryd.prog 9 #[.int .i64 n, .string s] w fun e w' => e = .returned (.bool true) ∧ Below w.heap.size w w' := by
  have HT := Lib.hid ht
  have HD := Lib.hid hd
  have HF := Lib.hid hf
  clear ht hd hf
  go_enter Tryd.func9, Tryd.ntmps9
  go_wp2_with fail
  refine (text_any n h0 h1 _ HT.out).mono ?_
  rintro e w1 ⟨rfl, hb1⟩
  have HB1 := Lib.hid hb1
  have HT1 := Lib.hid (tab_below HT.out (Nat.le_refl _) hb1)
  clear hb1
  go_wp2_with fail
  refine (parse_yes _ n (dec_self HF.out) _ HT1.out (itoa_size n h0 h1)).mono ?_
  rintro e w2 ⟨rfl, hb2⟩
  have HB2 := Lib.hid (below_tr HB1.out hb2)
  have HT2 := Lib.hid (tab_below HT1.out (Nat.le_refl _) hb2)
  clear hb2
  go_wp2_with fail
  refine (fit_to n true (fitB_yes HF.out) _).mono ?_
  rintro e w' ⟨rfl, rfl⟩
  go_wp2_with fail
  refine (parse_no2 s HD.out _ HT2.out hs).mono ?_
  rintro e w3 ⟨rfl, hb3⟩
  have HB3 := Lib.hid (below_tr HB2.out hb3)
  have HT3 := Lib.hid (tab_below HT2.out (Nat.le_refl _) hb3)
  clear hb3
  go_wp2_with fail
  refine (known_any _ HT3.out).mono ?_
  rintro e w5 ⟨rfl, hb5⟩
  go_wp2_with fail
  go_ret
  exact ⟨rfl, below_tr HB3.out hb5⟩
set_option maxHeartbeats 2000000 in
theorem numBack_ny (n : Int) (s : ByteArray) (h0 : -9223372036854775808 ≤ n) (h1 : n ≤ 9223372036854775807) (hs : s.size ≤ 140737488351232) (hf : ¬ fits n) (m : Int) (hd : Dec s m) (w : World) (ht : Tab w) :
    Calls Tryd.prog 9 #[.int .i64 n, .string s] w fun e w' => e = .returned (.bool true) ∧ Below w.heap.size w w' := by
  have HT := Lib.hid ht
  have HD := Lib.hid hd
  have HF := Lib.hid hf
  have hm0 : -9223372036854775808 ≤ m ∧ m ≤ 9223372036854775807 := by have := hd.1; unfold fits at this; omega
  have HM := Lib.hid hm0
  have HQ := Lib.hid (eq_of hd.2)
  clear hm0
  clear ht hd hf
  go_enter Tryd.func9, Tryd.ntmps9
  go_wp2_with fail
  refine (text_any n h0 h1 _ HT.out).mono ?_
  rintro e w1 ⟨rfl, hb1⟩
  have HB1 := Lib.hid hb1
  have HT1 := Lib.hid (tab_below HT.out (Nat.le_refl _) hb1)
  clear hb1
  go_wp2_with fail
  refine (parse_no2 _ (not_self HF.out) _ HT1.out (itoa_size n h0 h1)).mono ?_
  rintro e w2 ⟨rfl, hb2⟩
  have HB2 := Lib.hid (below_tr HB1.out hb2)
  have HT2 := Lib.hid (tab_below HT1.out (Nat.le_refl _) hb2)
  clear hb2
  go_wp2_with fail
  refine (fit_to n false (fitB_no HF.out) _).mono ?_
  rintro e w' ⟨rfl, rfl⟩
  go_wp2_with fail
  refine (parse_yes s m HD.out _ HT2.out hs).mono ?_
  rintro e w3 ⟨rfl, hb3⟩
  have HB3 := Lib.hid (below_tr HB2.out hb3)
  have HT3 := Lib.hid (tab_below HT2.out (Nat.le_refl _) hb3)
  clear hb3
  go_wp2_with fail
  refine (text_any m HM.out.1 HM.out.2 _ HT3.out).mono ?_
  rintro e w4 ⟨rfl, hb4⟩
  have HB4 := Lib.hid (below_tr HB3.out hb4)
  have HT4 := Lib.hid (tab_below HT3.out (Nat.le_refl _) hb4)
  clear hb4
  have hq := HQ.out
  go_wp2_with fail
  refine (fit_to m true (fitB_yes HD.out.1) _).mono ?_
  rintro e w' ⟨rfl, rfl⟩
  go_wp2_with fail
  refine (known_any _ HT4.out).mono ?_
  rintro e w5 ⟨rfl, hb5⟩
  go_wp2_with fail
  go_ret
  exact ⟨rfl, below_tr HB4.out hb5⟩
set_option maxHeartbeats 2000000 in
theorem numBack_nn (n : Int) (s : ByteArray) (h0 : -9223372036854775808 ≤ n) (h1 : n ≤ 9223372036854775807) (hs : s.size ≤ 140737488351232) (hf : ¬ fits n) (hd : NotS s) (w : World) (ht : Tab w) :
    Calls Tryd.prog 9 #[.int .i64 n, .string s] w fun e w' => e = .returned (.bool true) ∧ Below w.heap.size w w' := by
  have HT := Lib.hid ht
  have HD := Lib.hid hd
  have HF := Lib.hid hf
  clear ht hd hf
  go_enter Tryd.func9, Tryd.ntmps9
  go_wp2_with fail
  refine (text_any n h0 h1 _ HT.out).mono ?_
  rintro e w1 ⟨rfl, hb1⟩
  have HB1 := Lib.hid hb1
  have HT1 := Lib.hid (tab_below HT.out (Nat.le_refl _) hb1)
  clear hb1
  go_wp2_with fail
  refine (parse_no2 _ (not_self HF.out) _ HT1.out (itoa_size n h0 h1)).mono ?_
  rintro e w2 ⟨rfl, hb2⟩
  have HB2 := Lib.hid (below_tr HB1.out hb2)
  have HT2 := Lib.hid (tab_below HT1.out (Nat.le_refl _) hb2)
  clear hb2
  go_wp2_with fail
  refine (fit_to n false (fitB_no HF.out) _).mono ?_
  rintro e w' ⟨rfl, rfl⟩
  go_wp2_with fail
  refine (parse_no2 s HD.out _ HT2.out hs).mono ?_
  rintro e w3 ⟨rfl, hb3⟩
  have HB3 := Lib.hid (below_tr HB2.out hb3)
  have HT3 := Lib.hid (tab_below HT2.out (Nat.le_refl _) hb3)
  clear hb3
  go_wp2_with fail
  refine (known_any _ HT3.out).mono ?_
  rintro e w5 ⟨rfl, hb5⟩
  go_wp2_with fail
  go_ret
  exact ⟨rfl, below_tr HB3.out hb5⟩
theorem numBack_walk (n : Int) (s : ByteArray) (h0 : -9223372036854775808 ≤ n) (h1 : n ≤ 9223372036854775807) (hs : s.size ≤ 140737488351232) (w : World) (ht : Tab w) :
    Calls Tryd.prog 9 #[.int .i64 n, .string s] w fun e w' => e = .returned (.bool true) ∧ Below w.heap.size w w' := by
  by_cases hf : fits n <;> by_cases h : ∃ m, Dec s m
  · obtain ⟨m, hm⟩ := h
    exact numBack_yy n s h0 h1 hs hf m hm w ht
  · exact numBack_yn n s h0 h1 hs hf (fun m hf he => h ⟨m, hf, he⟩) w ht
  · obtain ⟨m, hm⟩ := h
    exact numBack_ny n s h0 h1 hs hf m hm w ht
  · exact numBack_nn n s h0 h1 hs hf (fun m hf he => h ⟨m, hf, he⟩) w ht
end Go.Proofs.YtladgbfmfhmpiaaDoor
