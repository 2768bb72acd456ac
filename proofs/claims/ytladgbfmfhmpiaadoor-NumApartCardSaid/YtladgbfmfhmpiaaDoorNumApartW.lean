/- The walk of the statement NumApart: it returns true. Condition: the library's table of powers of ten reads as it is laid. -/
import Derived.Test.YtladgbfmfhmpiaaDoorTo
namespace Go.Proofs.YtladgbfmfhmpiaaDoor
open Go Go.RowKit
theorem intW_bd (n : Int) : 0 ≤ intW n ∧ intW n ≤ 18446744073709551615 := by unfold intW; omega
theorem ptrW_bd (n : Int) : 0 ≤ ptrW n ∧ ptrW n ≤ 18446744073709551615 := by unfold ptrW; split <;> omega
theorem intW_odd (n : Int) : intW n % 2 = 1 := by unfold intW; omega
theorem toI_intW (n : Int) : toI (intW n) = W n := by unfold toI; rw [if_pos (intW_odd n)]; unfold intW W; omega
theorem intW_eq (n m : Int) : (intW n == intW m) = (W n == W m) := by
  rw [Bool.eq_iff_iff]; simp only [beq_iff_eq]
  constructor
  · intro h; rw [← toI_intW n, ← toI_intW m, h]
  · intro h; have h1 : intW (W n) = intW (W m) := by rw [h]
    have e : ∀ x, intW (W x) = intW x := by intro x; unfold intW W; omega
    rwa [e, e] at h1
theorem isInt_intW (n : Int) : isIntB (intW n) = true := isIntB_of.2 (intW_odd n)
theorem isPtr_intW (n : Int) : isPtrB (intW n) = false := isPtr_no (intW_odd n)
theorem isPtr_ptrW {a : Int} (h0 : 1 ≤ a) (h1 : a ≤ 1099511627776) : isPtrB (ptrW a) = true := by rw [ptrW_in h0 h1]; exact isPtr_yes (by omega) (by omega) (by omega)
theorem isInt_ptrW {a : Int} (h0 : 1 ≤ a) (h1 : a ≤ 1099511627776) : isIntB (ptrW a) = false := by rw [ptrW_in h0 h1]; exact isIntB_not.2 (by omega)
theorem toP_ptrW {a : Int} (h0 : 1 ≤ a) (h1 : a ≤ 1099511627776) : toP (ptrW a) = a := by rw [toP_yes (isPtr_ptrW h0 h1), ptrW_in h0 h1]; omega
theorem int_toI {u : Int} (h0 : 0 ≤ u) (h1 : u ≤ 18446744073709551615) (h : isIntB u = true) : intW (toI u) = u := by rw [toI_yes h]; have := isIntB_of.1 h; unfold intW W; omega
theorem ptr_toP {u : Int} (h : isPtrB u = true) : ptrW (toP u) = u := by rw [toP_yes h]; have := isPtrB_of.1 h; rw [ptrW_in (by omega) (by omega)]; omega
theorem not_both {u : Int} (h : isIntB u = true) : isPtrB u = false := isPtr_no (isIntB_of.1 h)
set_option maxHeartbeats 2000000 in
theorem numApart_int_in (n m a u : Int) (h0 : 0 ≤ u) (h1 : u ≤ 18446744073709551615) (hi : isIntB u = true) (ha0 : 1 ≤ a) (ha1 : a ≤ 1099511627776) (w : World) (ht : Tab w) :
    Calls Tryd.prog 11 #[.int .i64 n, .int .i64 m, .int .i64 a, .int .u64 u] w fun e w' => e = .returned (.bool true) ∧ Below w.heap.size w w' := by
  have HT := Lib.hid ht
  have HI := Lib.hid hi
  clear ht hi
  obtain ⟨bb, hE1, hE2⟩ : ∃ bb : Bool, (intW n == intW m) = bb ∧ (W n == W m) = bb := ⟨_, intW_eq n m, rfl⟩
  go_enter Tryd.func11, Tryd.ntmps11
  go_wp2_with fail
  refine (int_any _ _).mono ?_
  rintro e w' ⟨rfl, rfl⟩
  go_wp2_with fail
  refine (toint_to _ (W n) (intW_bd n).1 (intW_bd n).2 (toI_intW n) _).mono ?_
  rintro e w' ⟨rfl, rfl⟩
  go_wp2_with fail
  refine (wrap_any _ _).mono ?_
  rintro e w' ⟨rfl, rfl⟩
  go_wp2_with fail
  refine (int_any _ _).mono ?_
  rintro e w' ⟨rfl, rfl⟩
  go_wp2_with fail
  refine (int_any _ _).mono ?_
  rintro e w' ⟨rfl, rfl⟩
  go_wp2_with fail
  refine (wrap_any _ _).mono ?_
  rintro e w' ⟨rfl, rfl⟩
  go_wp2_with fail
  refine (wrap_any _ _).mono ?_
  rintro e w' ⟨rfl, rfl⟩
  go_wp2_with fail
  refine (int_any _ _).mono ?_
  rintro e w' ⟨rfl, rfl⟩
  go_wp2_with fail
  refine (isint_to _ true (intW_bd n).1 (intW_bd n).2 (isInt_intW n) _).mono ?_
  rintro e w' ⟨rfl, rfl⟩
  go_wp2_with fail
  refine (int_any _ _).mono ?_
  rintro e w' ⟨rfl, rfl⟩
  go_wp2_with fail
  refine (isptr_to _ false (intW_bd n).1 (intW_bd n).2 (isPtr_intW n) _).mono ?_
  rintro e w' ⟨rfl, rfl⟩
  go_wp2_with fail
  refine (ptr_any _ _).mono ?_
  rintro e w' ⟨rfl, rfl⟩
  go_wp2_with fail
  refine (toptr_to _ a (ptrW_bd a).1 (ptrW_bd a).2 (toP_ptrW ha0 ha1) _).mono ?_
  rintro e w' ⟨rfl, rfl⟩
  go_wp2_with fail
  refine (ptr_any _ _).mono ?_
  rintro e w' ⟨rfl, rfl⟩
  go_wp2_with fail
  refine (isptr_to _ true (ptrW_bd a).1 (ptrW_bd a).2 (isPtr_ptrW ha0 ha1) _).mono ?_
  rintro e w' ⟨rfl, rfl⟩
  go_wp2_with fail
  refine (ptr_any _ _).mono ?_
  rintro e w' ⟨rfl, rfl⟩
  go_wp2_with fail
  refine (isint_to _ false (ptrW_bd a).1 (ptrW_bd a).2 (isInt_ptrW ha0 ha1) _).mono ?_
  rintro e w' ⟨rfl, rfl⟩
  go_wp2_with fail
  refine (isint_to _ true h0 h1 HI.out _).mono ?_
  rintro e w' ⟨rfl, rfl⟩
  go_wp2_with fail
  refine (isptr_to _ false h0 h1 (not_both HI.out) _).mono ?_
  rintro e w' ⟨rfl, rfl⟩
  go_wp2_with fail
  refine (isint_to _ true h0 h1 HI.out _).mono ?_
  rintro e w' ⟨rfl, rfl⟩
  go_wp2_with fail
  refine (toint_any _ _ h0 h1).mono ?_
  rintro e w' ⟨rfl, rfl⟩
  go_wp2_with fail
  refine (int_to _ u (int_toI h0 h1 HI.out) _).mono ?_
  rintro e w' ⟨rfl, rfl⟩
  go_wp2_with fail
  refine (isptr_to _ false h0 h1 (not_both HI.out) _).mono ?_
  rintro e w' ⟨rfl, rfl⟩
  go_wp2_with fail
  refine (known_any _ HT.out).mono ?_
  rintro e w1 ⟨rfl, hb⟩
  go_wp2_with fail
  go_ret
  exact ⟨rfl, hb⟩
set_option maxHeartbeats 2000000 in
theorem numApart_int_lo (n m a u : Int) (h0 : 0 ≤ u) (h1 : u ≤ 18446744073709551615) (hi : isIntB u = true) (ha : a < 1) (w : World) (ht : Tab w) :
    Calls Tryd.prog 11 #[.int .i64 n, .int .i64 m, .int .i64 a, .int .u64 u] w fun e w' => e = .returned (.bool true) ∧ Below w.heap.size w w' := by
  have HT := Lib.hid ht
  have HI := Lib.hid hi
  clear ht hi
  have hd : decide (1 ≤ a) = false := by simpa using ha
  obtain ⟨bb, hE1, hE2⟩ : ∃ bb : Bool, (intW n == intW m) = bb ∧ (W n == W m) = bb := ⟨_, intW_eq n m, rfl⟩
  go_enter Tryd.func11, Tryd.ntmps11
  go_wp2_with fail
  refine (int_any _ _).mono ?_
  rintro e w' ⟨rfl, rfl⟩
  go_wp2_with fail
  refine (toint_to _ (W n) (intW_bd n).1 (intW_bd n).2 (toI_intW n) _).mono ?_
  rintro e w' ⟨rfl, rfl⟩
  go_wp2_with fail
  refine (wrap_any _ _).mono ?_
  rintro e w' ⟨rfl, rfl⟩
  go_wp2_with fail
  refine (int_any _ _).mono ?_
  rintro e w' ⟨rfl, rfl⟩
  go_wp2_with fail
  refine (int_any _ _).mono ?_
  rintro e w' ⟨rfl, rfl⟩
  go_wp2_with fail
  refine (wrap_any _ _).mono ?_
  rintro e w' ⟨rfl, rfl⟩
  go_wp2_with fail
  refine (wrap_any _ _).mono ?_
  rintro e w' ⟨rfl, rfl⟩
  go_wp2_with fail
  refine (int_any _ _).mono ?_
  rintro e w' ⟨rfl, rfl⟩
  go_wp2_with fail
  refine (isint_to _ true (intW_bd n).1 (intW_bd n).2 (isInt_intW n) _).mono ?_
  rintro e w' ⟨rfl, rfl⟩
  go_wp2_with fail
  refine (int_any _ _).mono ?_
  rintro e w' ⟨rfl, rfl⟩
  go_wp2_with fail
  refine (isptr_to _ false (intW_bd n).1 (intW_bd n).2 (isPtr_intW n) _).mono ?_
  rintro e w' ⟨rfl, rfl⟩
  go_wp2_with fail
  refine (isint_to _ true h0 h1 HI.out _).mono ?_
  rintro e w' ⟨rfl, rfl⟩
  go_wp2_with fail
  refine (isptr_to _ false h0 h1 (not_both HI.out) _).mono ?_
  rintro e w' ⟨rfl, rfl⟩
  go_wp2_with fail
  refine (isint_to _ true h0 h1 HI.out _).mono ?_
  rintro e w' ⟨rfl, rfl⟩
  go_wp2_with fail
  refine (toint_any _ _ h0 h1).mono ?_
  rintro e w' ⟨rfl, rfl⟩
  go_wp2_with fail
  refine (int_to _ u (int_toI h0 h1 HI.out) _).mono ?_
  rintro e w' ⟨rfl, rfl⟩
  go_wp2_with fail
  refine (isptr_to _ false h0 h1 (not_both HI.out) _).mono ?_
  rintro e w' ⟨rfl, rfl⟩
  go_wp2_with fail
  refine (known_any _ HT.out).mono ?_
  rintro e w1 ⟨rfl, hb⟩
  go_wp2_with fail
  go_ret
  exact ⟨rfl, hb⟩
set_option maxHeartbeats 2000000 in
theorem numApart_int_hi (n m a u : Int) (h0 : 0 ≤ u) (h1 : u ≤ 18446744073709551615) (hi : isIntB u = true) (ha : 1099511627776 < a) (w : World) (ht : Tab w) :
    Calls Tryd.prog 11 #[.int .i64 n, .int .i64 m, .int .i64 a, .int .u64 u] w fun e w' => e = .returned (.bool true) ∧ Below w.heap.size w w' := by
  have HT := Lib.hid ht
  have HI := Lib.hid hi
  clear ht hi
  have hd : decide (1 ≤ a) = true := by rw [decide_eq_true_eq]; omega
  obtain ⟨bb, hE1, hE2⟩ : ∃ bb : Bool, (intW n == intW m) = bb ∧ (W n == W m) = bb := ⟨_, intW_eq n m, rfl⟩
  go_enter Tryd.func11, Tryd.ntmps11
  go_wp2_with fail
  refine (int_any _ _).mono ?_
  rintro e w' ⟨rfl, rfl⟩
  go_wp2_with fail
  refine (toint_to _ (W n) (intW_bd n).1 (intW_bd n).2 (toI_intW n) _).mono ?_
  rintro e w' ⟨rfl, rfl⟩
  go_wp2_with fail
  refine (wrap_any _ _).mono ?_
  rintro e w' ⟨rfl, rfl⟩
  go_wp2_with fail
  refine (int_any _ _).mono ?_
  rintro e w' ⟨rfl, rfl⟩
  go_wp2_with fail
  refine (int_any _ _).mono ?_
  rintro e w' ⟨rfl, rfl⟩
  go_wp2_with fail
  refine (wrap_any _ _).mono ?_
  rintro e w' ⟨rfl, rfl⟩
  go_wp2_with fail
  refine (wrap_any _ _).mono ?_
  rintro e w' ⟨rfl, rfl⟩
  go_wp2_with fail
  refine (int_any _ _).mono ?_
  rintro e w' ⟨rfl, rfl⟩
  go_wp2_with fail
  refine (isint_to _ true (intW_bd n).1 (intW_bd n).2 (isInt_intW n) _).mono ?_
  rintro e w' ⟨rfl, rfl⟩
  go_wp2_with fail
  refine (int_any _ _).mono ?_
  rintro e w' ⟨rfl, rfl⟩
  go_wp2_with fail
  refine (isptr_to _ false (intW_bd n).1 (intW_bd n).2 (isPtr_intW n) _).mono ?_
  rintro e w' ⟨rfl, rfl⟩
  go_wp2_with fail
  refine (isint_to _ true h0 h1 HI.out _).mono ?_
  rintro e w' ⟨rfl, rfl⟩
  go_wp2_with fail
  refine (isptr_to _ false h0 h1 (not_both HI.out) _).mono ?_
  rintro e w' ⟨rfl, rfl⟩
  go_wp2_with fail
  refine (isint_to _ true h0 h1 HI.out _).mono ?_
  rintro e w' ⟨rfl, rfl⟩
  go_wp2_with fail
  refine (toint_any _ _ h0 h1).mono ?_
  rintro e w' ⟨rfl, rfl⟩
  go_wp2_with fail
  refine (int_to _ u (int_toI h0 h1 HI.out) _).mono ?_
  rintro e w' ⟨rfl, rfl⟩
  go_wp2_with fail
  refine (isptr_to _ false h0 h1 (not_both HI.out) _).mono ?_
  rintro e w' ⟨rfl, rfl⟩
  go_wp2_with fail
  refine (known_any _ HT.out).mono ?_
  rintro e w1 ⟨rfl, hb⟩
  go_wp2_with fail
  go_ret
  exact ⟨rfl, hb⟩
set_option maxHeartbeats 2000000 in
theorem numApart_ptr_in (n m a u : Int) (h0 : 0 ≤ u) (h1 : u ≤ 18446744073709551615) (hi : isIntB u = false) (hp : isPtrB u = true) (ha0 : 1 ≤ a) (ha1 : a ≤ 1099511627776) (w : World) (ht : Tab w) :
    Calls Tryd.prog 11 #[.int .i64 n, .int .i64 m, .int .i64 a, .int .u64 u] w fun e w' => e = .returned (.bool true) ∧ Below w.heap.size w w' := by
  have HT := Lib.hid ht
  have HI := Lib.hid hi
  clear ht hi
  have HP := Lib.hid hp
  clear hp
  obtain ⟨bb, hE1, hE2⟩ : ∃ bb : Bool, (intW n == intW m) = bb ∧ (W n == W m) = bb := ⟨_, intW_eq n m, rfl⟩
  go_enter Tryd.func11, Tryd.ntmps11
  go_wp2_with fail
  refine (int_any _ _).mono ?_
  rintro e w' ⟨rfl, rfl⟩
  go_wp2_with fail
  refine (toint_to _ (W n) (intW_bd n).1 (intW_bd n).2 (toI_intW n) _).mono ?_
  rintro e w' ⟨rfl, rfl⟩
  go_wp2_with fail
  refine (wrap_any _ _).mono ?_
  rintro e w' ⟨rfl, rfl⟩
  go_wp2_with fail
  refine (int_any _ _).mono ?_
  rintro e w' ⟨rfl, rfl⟩
  go_wp2_with fail
  refine (int_any _ _).mono ?_
  rintro e w' ⟨rfl, rfl⟩
  go_wp2_with fail
  refine (wrap_any _ _).mono ?_
  rintro e w' ⟨rfl, rfl⟩
  go_wp2_with fail
  refine (wrap_any _ _).mono ?_
  rintro e w' ⟨rfl, rfl⟩
  go_wp2_with fail
  refine (int_any _ _).mono ?_
  rintro e w' ⟨rfl, rfl⟩
  go_wp2_with fail
  refine (isint_to _ true (intW_bd n).1 (intW_bd n).2 (isInt_intW n) _).mono ?_
  rintro e w' ⟨rfl, rfl⟩
  go_wp2_with fail
  refine (int_any _ _).mono ?_
  rintro e w' ⟨rfl, rfl⟩
  go_wp2_with fail
  refine (isptr_to _ false (intW_bd n).1 (intW_bd n).2 (isPtr_intW n) _).mono ?_
  rintro e w' ⟨rfl, rfl⟩
  go_wp2_with fail
  refine (ptr_any _ _).mono ?_
  rintro e w' ⟨rfl, rfl⟩
  go_wp2_with fail
  refine (toptr_to _ a (ptrW_bd a).1 (ptrW_bd a).2 (toP_ptrW ha0 ha1) _).mono ?_
  rintro e w' ⟨rfl, rfl⟩
  go_wp2_with fail
  refine (ptr_any _ _).mono ?_
  rintro e w' ⟨rfl, rfl⟩
  go_wp2_with fail
  refine (isptr_to _ true (ptrW_bd a).1 (ptrW_bd a).2 (isPtr_ptrW ha0 ha1) _).mono ?_
  rintro e w' ⟨rfl, rfl⟩
  go_wp2_with fail
  refine (ptr_any _ _).mono ?_
  rintro e w' ⟨rfl, rfl⟩
  go_wp2_with fail
  refine (isint_to _ false (ptrW_bd a).1 (ptrW_bd a).2 (isInt_ptrW ha0 ha1) _).mono ?_
  rintro e w' ⟨rfl, rfl⟩
  go_wp2_with fail
  refine (isint_to _ false h0 h1 HI.out _).mono ?_
  rintro e w' ⟨rfl, rfl⟩
  go_wp2_with fail
  refine (isint_to _ false h0 h1 HI.out _).mono ?_
  rintro e w' ⟨rfl, rfl⟩
  go_wp2_with fail
  refine (isptr_to _ true h0 h1 HP.out _).mono ?_
  rintro e w' ⟨rfl, rfl⟩
  go_wp2_with fail
  refine (toptr_any _ _ h0 h1).mono ?_
  rintro e w' ⟨rfl, rfl⟩
  go_wp2_with fail
  refine (ptr_to _ u (ptr_toP HP.out) _).mono ?_
  rintro e w' ⟨rfl, rfl⟩
  go_wp2_with fail
  refine (known_any _ HT.out).mono ?_
  rintro e w1 ⟨rfl, hb⟩
  go_wp2_with fail
  go_ret
  exact ⟨rfl, hb⟩
set_option maxHeartbeats 2000000 in
theorem numApart_ptr_lo (n m a u : Int) (h0 : 0 ≤ u) (h1 : u ≤ 18446744073709551615) (hi : isIntB u = false) (hp : isPtrB u = true) (ha : a < 1) (w : World) (ht : Tab w) :
    Calls Tryd.prog 11 #[.int .i64 n, .int .i64 m, .int .i64 a, .int .u64 u] w fun e w' => e = .returned (.bool true) ∧ Below w.heap.size w w' := by
  have HT := Lib.hid ht
  have HI := Lib.hid hi
  clear ht hi
  have HP := Lib.hid hp
  clear hp
  have hd : decide (1 ≤ a) = false := by simpa using ha
  obtain ⟨bb, hE1, hE2⟩ : ∃ bb : Bool, (intW n == intW m) = bb ∧ (W n == W m) = bb := ⟨_, intW_eq n m, rfl⟩
  go_enter Tryd.func11, Tryd.ntmps11
  go_wp2_with fail
  refine (int_any _ _).mono ?_
  rintro e w' ⟨rfl, rfl⟩
  go_wp2_with fail
  refine (toint_to _ (W n) (intW_bd n).1 (intW_bd n).2 (toI_intW n) _).mono ?_
  rintro e w' ⟨rfl, rfl⟩
  go_wp2_with fail
  refine (wrap_any _ _).mono ?_
  rintro e w' ⟨rfl, rfl⟩
  go_wp2_with fail
  refine (int_any _ _).mono ?_
  rintro e w' ⟨rfl, rfl⟩
  go_wp2_with fail
  refine (int_any _ _).mono ?_
  rintro e w' ⟨rfl, rfl⟩
  go_wp2_with fail
  refine (wrap_any _ _).mono ?_
  rintro e w' ⟨rfl, rfl⟩
  go_wp2_with fail
  refine (wrap_any _ _).mono ?_
  rintro e w' ⟨rfl, rfl⟩
  go_wp2_with fail
  refine (int_any _ _).mono ?_
  rintro e w' ⟨rfl, rfl⟩
  go_wp2_with fail
  refine (isint_to _ true (intW_bd n).1 (intW_bd n).2 (isInt_intW n) _).mono ?_
  rintro e w' ⟨rfl, rfl⟩
  go_wp2_with fail
  refine (int_any _ _).mono ?_
  rintro e w' ⟨rfl, rfl⟩
  go_wp2_with fail
  refine (isptr_to _ false (intW_bd n).1 (intW_bd n).2 (isPtr_intW n) _).mono ?_
  rintro e w' ⟨rfl, rfl⟩
  go_wp2_with fail
  refine (isint_to _ false h0 h1 HI.out _).mono ?_
  rintro e w' ⟨rfl, rfl⟩
  go_wp2_with fail
  refine (isint_to _ false h0 h1 HI.out _).mono ?_
  rintro e w' ⟨rfl, rfl⟩
  go_wp2_with fail
  refine (isptr_to _ true h0 h1 HP.out _).mono ?_
  rintro e w' ⟨rfl, rfl⟩
  go_wp2_with fail
  refine (toptr_any _ _ h0 h1).mono ?_
  rintro e w' ⟨rfl, rfl⟩
  go_wp2_with fail
  refine (ptr_to _ u (ptr_toP HP.out) _).mono ?_
  rintro e w' ⟨rfl, rfl⟩
  go_wp2_with fail
  refine (known_any _ HT.out).mono ?_
  rintro e w1 ⟨rfl, hb⟩
  go_wp2_with fail
  go_ret
  exact ⟨rfl, hb⟩
set_option maxHeartbeats 2000000 in
theorem numApart_ptr_hi (n m a u : Int) (h0 : 0 ≤ u) (h1 : u ≤ 18446744073709551615) (hi : isIntB u = false) (hp : isPtrB u = true) (ha : 1099511627776 < a) (w : World) (ht : Tab w) :
    Calls Tryd.prog 11 #[.int .i64 n, .int .i64 m, .int .i64 a, .int .u64 u] w fun e w' => e = .returned (.bool true) ∧ Below w.heap.size w w' := by
  have HT := Lib.hid ht
  have HI := Lib.hid hi
  clear ht hi
  have HP := Lib.hid hp
  clear hp
  have hd : decide (1 ≤ a) = true := by rw [decide_eq_true_eq]; omega
  obtain ⟨bb, hE1, hE2⟩ : ∃ bb : Bool, (intW n == intW m) = bb ∧ (W n == W m) = bb := ⟨_, intW_eq n m, rfl⟩
  go_enter Tryd.func11, Tryd.ntmps11
  go_wp2_with fail
  refine (int_any _ _).mono ?_
  rintro e w' ⟨rfl, rfl⟩
  go_wp2_with fail
  refine (toint_to _ (W n) (intW_bd n).1 (intW_bd n).2 (toI_intW n) _).mono ?_
  rintro e w' ⟨rfl, rfl⟩
  go_wp2_with fail
  refine (wrap_any _ _).mono ?_
  rintro e w' ⟨rfl, rfl⟩
  go_wp2_with fail
  refine (int_any _ _).mono ?_
  rintro e w' ⟨rfl, rfl⟩
  go_wp2_with fail
  refine (int_any _ _).mono ?_
  rintro e w' ⟨rfl, rfl⟩
  go_wp2_with fail
  refine (wrap_any _ _).mono ?_
  rintro e w' ⟨rfl, rfl⟩
  go_wp2_with fail
  refine (wrap_any _ _).mono ?_
  rintro e w' ⟨rfl, rfl⟩
  go_wp2_with fail
  refine (int_any _ _).mono ?_
  rintro e w' ⟨rfl, rfl⟩
  go_wp2_with fail
  refine (isint_to _ true (intW_bd n).1 (intW_bd n).2 (isInt_intW n) _).mono ?_
  rintro e w' ⟨rfl, rfl⟩
  go_wp2_with fail
  refine (int_any _ _).mono ?_
  rintro e w' ⟨rfl, rfl⟩
  go_wp2_with fail
  refine (isptr_to _ false (intW_bd n).1 (intW_bd n).2 (isPtr_intW n) _).mono ?_
  rintro e w' ⟨rfl, rfl⟩
  go_wp2_with fail
  refine (isint_to _ false h0 h1 HI.out _).mono ?_
  rintro e w' ⟨rfl, rfl⟩
  go_wp2_with fail
  refine (isint_to _ false h0 h1 HI.out _).mono ?_
  rintro e w' ⟨rfl, rfl⟩
  go_wp2_with fail
  refine (isptr_to _ true h0 h1 HP.out _).mono ?_
  rintro e w' ⟨rfl, rfl⟩
  go_wp2_with fail
  refine (toptr_any _ _ h0 h1).mono ?_
  rintro e w' ⟨rfl, rfl⟩
  go_wp2_with fail
  refine (ptr_to _ u (ptr_toP HP.out) _).mono ?_
  rintro e w' ⟨rfl, rfl⟩
  go_wp2_with fail
  refine (known_any _ HT.out).mono ?_
  rintro e w1 ⟨rfl, hb⟩
  go_wp2_with fail
  go_ret
  exact ⟨rfl, hb⟩
set_option maxHeartbeats 2000000 in
theorem numApart_no_in (n m a u : Int) (h0 : 0 ≤ u) (h1 : u ≤ 18446744073709551615) (hi : isIntB u = false) (hp : isPtrB u = false) (ha0 : 1 ≤ a) (ha1 : a ≤ 1099511627776) (w : World) (ht : Tab w) :
    Calls Tryd.prog 11 #[.int .i64 n, .int .i64 m, .int .i64 a, .int .u64 u] w fun e w' => e = .returned (.bool true) ∧ Below w.heap.size w w' := by
  have HT := Lib.hid ht
  have HI := Lib.hid hi
  clear ht hi
  have HP := Lib.hid hp
  clear hp
  obtain ⟨bb, hE1, hE2⟩ : ∃ bb : Bool, (intW n == intW m) = bb ∧ (W n == W m) = bb := ⟨_, intW_eq n m, rfl⟩
  go_enter Tryd.func11, Tryd.ntmps11
  go_wp2_with fail
  refine (int_any _ _).mono ?_
  rintro e w' ⟨rfl, rfl⟩
  go_wp2_with fail
  refine (toint_to _ (W n) (intW_bd n).1 (intW_bd n).2 (toI_intW n) _).mono ?_
  rintro e w' ⟨rfl, rfl⟩
  go_wp2_with fail
  refine (wrap_any _ _).mono ?_
  rintro e w' ⟨rfl, rfl⟩
  go_wp2_with fail
  refine (int_any _ _).mono ?_
  rintro e w' ⟨rfl, rfl⟩
  go_wp2_with fail
  refine (int_any _ _).mono ?_
  rintro e w' ⟨rfl, rfl⟩
  go_wp2_with fail
  refine (wrap_any _ _).mono ?_
  rintro e w' ⟨rfl, rfl⟩
  go_wp2_with fail
  refine (wrap_any _ _).mono ?_
  rintro e w' ⟨rfl, rfl⟩
  go_wp2_with fail
  refine (int_any _ _).mono ?_
  rintro e w' ⟨rfl, rfl⟩
  go_wp2_with fail
  refine (isint_to _ true (intW_bd n).1 (intW_bd n).2 (isInt_intW n) _).mono ?_
  rintro e w' ⟨rfl, rfl⟩
  go_wp2_with fail
  refine (int_any _ _).mono ?_
  rintro e w' ⟨rfl, rfl⟩
  go_wp2_with fail
  refine (isptr_to _ false (intW_bd n).1 (intW_bd n).2 (isPtr_intW n) _).mono ?_
  rintro e w' ⟨rfl, rfl⟩
  go_wp2_with fail
  refine (ptr_any _ _).mono ?_
  rintro e w' ⟨rfl, rfl⟩
  go_wp2_with fail
  refine (toptr_to _ a (ptrW_bd a).1 (ptrW_bd a).2 (toP_ptrW ha0 ha1) _).mono ?_
  rintro e w' ⟨rfl, rfl⟩
  go_wp2_with fail
  refine (ptr_any _ _).mono ?_
  rintro e w' ⟨rfl, rfl⟩
  go_wp2_with fail
  refine (isptr_to _ true (ptrW_bd a).1 (ptrW_bd a).2 (isPtr_ptrW ha0 ha1) _).mono ?_
  rintro e w' ⟨rfl, rfl⟩
  go_wp2_with fail
  refine (ptr_any _ _).mono ?_
  rintro e w' ⟨rfl, rfl⟩
  go_wp2_with fail
  refine (isint_to _ false (ptrW_bd a).1 (ptrW_bd a).2 (isInt_ptrW ha0 ha1) _).mono ?_
  rintro e w' ⟨rfl, rfl⟩
  go_wp2_with fail
  refine (isint_to _ false h0 h1 HI.out _).mono ?_
  rintro e w' ⟨rfl, rfl⟩
  go_wp2_with fail
  refine (isint_to _ false h0 h1 HI.out _).mono ?_
  rintro e w' ⟨rfl, rfl⟩
  go_wp2_with fail
  refine (isptr_to _ false h0 h1 HP.out _).mono ?_
  rintro e w' ⟨rfl, rfl⟩
  go_wp2_with fail
  refine (known_any _ HT.out).mono ?_
  rintro e w1 ⟨rfl, hb⟩
  go_wp2_with fail
  go_ret
  exact ⟨rfl, hb⟩
set_option maxHeartbeats 2000000 in
theorem numApart_no_lo (n m a u : Int) (h0 : 0 ≤ u) (h1 : u ≤ 18446744073709551615) (hi : isIntB u = false) (hp : isPtrB u = false) (ha : a < 1) (w : World) (ht : Tab w) :
    Calls Tryd.prog 11 #[.int .i64 n, .int .i64 m, .int .i64 a, .int .u64 u] w fun e w' => e = .returned (.bool true) ∧ Below w.heap.size w w' := by
  have HT := Lib.hid ht
  have HI := Lib.hid hi
  clear ht hi
  have HP := Lib.hid hp
  clear hp
  have hd : decide (1 ≤ a) = false := by simpa using ha
  obtain ⟨bb, hE1, hE2⟩ : ∃ bb : Bool, (intW n == intW m) = bb ∧ (W n == W m) = bb := ⟨_, intW_eq n m, rfl⟩
  go_enter Tryd.func11, Tryd.ntmps11
  go_wp2_with fail
  refine (int_any _ _).mono ?_
  rintro e w' ⟨rfl, rfl⟩
  go_wp2_with fail
  refine (toint_to _ (W n) (intW_bd n).1 (intW_bd n).2 (toI_intW n) _).mono ?_
  rintro e w' ⟨rfl, rfl⟩
  go_wp2_with fail
  refine (wrap_any _ _).mono ?_
  rintro e w' ⟨rfl, rfl⟩
  go_wp2_with fail
  refine (int_any _ _).mono ?_
  rintro e w' ⟨rfl, rfl⟩
  go_wp2_with fail
  refine (int_any _ _).mono ?_
  rintro e w' ⟨rfl, rfl⟩
  go_wp2_with fail
  refine (wrap_any _ _).mono ?_
  rintro e w' ⟨rfl, rfl⟩
  go_wp2_with fail
  refine (wrap_any _ _).mono ?_
  rintro e w' ⟨rfl, rfl⟩
  go_wp2_with fail
  refine (int_any _ _).mono ?_
  rintro e w' ⟨rfl, rfl⟩
  go_wp2_with fail
  refine (isint_to _ true (intW_bd n).1 (intW_bd n).2 (isInt_intW n) _).mono ?_
  rintro e w' ⟨rfl, rfl⟩
  go_wp2_with fail
  refine (int_any _ _).mono ?_
  rintro e w' ⟨rfl, rfl⟩
  go_wp2_with fail
  refine (isptr_to _ false (intW_bd n).1 (intW_bd n).2 (isPtr_intW n) _).mono ?_
  rintro e w' ⟨rfl, rfl⟩
  go_wp2_with fail
  refine (isint_to _ false h0 h1 HI.out _).mono ?_
  rintro e w' ⟨rfl, rfl⟩
  go_wp2_with fail
  refine (isint_to _ false h0 h1 HI.out _).mono ?_
  rintro e w' ⟨rfl, rfl⟩
  go_wp2_with fail
  refine (isptr_to _ false h0 h1 HP.out _).mono ?_
  rintro e w' ⟨rfl, rfl⟩
  go_wp2_with fail
  refine (known_any _ HT.out).mono ?_
  rintro e w1 ⟨rfl, hb⟩
  go_wp2_with fail
  go_ret
  exact ⟨rfl, hb⟩
set_option maxHeartbeats 2000000 in
theorem numApart_no_hi (n m a u : Int) (h0 : 0 ≤ u) (h1 : u ≤ 18446744073709551615) (hi : isIntB u = false) (hp : isPtrB u = false) (ha : 1099511627776 < a) (w : World) (ht : Tab w) :
    Calls Tryd.prog 11 #[.int .i64 n, .int .i64 m, .int .i64 a, .int .u64 u] w fun e w' => e = .returned (.bool true) ∧ Below w.heap.size w w' := by
  have HT := Lib.hid ht
  have HI := Lib.hid hi
  clear ht hi
  have HP := Lib.hid hp
  clear hp
  have hd : decide (1 ≤ a) = true := by rw [decide_eq_true_eq]; omega
  obtain ⟨bb, hE1, hE2⟩ : ∃ bb : Bool, (intW n == intW m) = bb ∧ (W n == W m) = bb := ⟨_, intW_eq n m, rfl⟩
  go_enter Tryd.func11, Tryd.ntmps11
  go_wp2_with fail
  refine (int_any _ _).mono ?_
  rintro e w' ⟨rfl, rfl⟩
  go_wp2_with fail
  refine (toint_to _ (W n) (intW_bd n).1 (intW_bd n).2 (toI_intW n) _).mono ?_
  rintro e w' ⟨rfl, rfl⟩
  go_wp2_with fail
  refine (wrap_any _ _).mono ?_
  rintro e w' ⟨rfl, rfl⟩
  go_wp2_with fail
  refine (int_any _ _).mono ?_
  rintro e w' ⟨rfl, rfl⟩
  go_wp2_with fail
  refine (int_any _ _).mono ?_
  rintro e w' ⟨rfl, rfl⟩
  go_wp2_with fail
  refine (wrap_any _ _).mono ?_
  rintro e w' ⟨rfl, rfl⟩
  go_wp2_with fail
  refine (wrap_any _ _).mono ?_
  rintro e w' ⟨rfl, rfl⟩
  go_wp2_with fail
  refine (int_any _ _).mono ?_
  rintro e w' ⟨rfl, rfl⟩
  go_wp2_with fail
  refine (isint_to _ true (intW_bd n).1 (intW_bd n).2 (isInt_intW n) _).mono ?_
  rintro e w' ⟨rfl, rfl⟩
  go_wp2_with fail
  refine (int_any _ _).mono ?_
  rintro e w' ⟨rfl, rfl⟩
  go_wp2_with fail
  refine (isptr_to _ false (intW_bd n).1 (intW_bd n).2 (isPtr_intW n) _).mono ?_
  rintro e w' ⟨rfl, rfl⟩
  go_wp2_with fail
  refine (isint_to _ false h0 h1 HI.out _).mono ?_
  rintro e w' ⟨rfl, rfl⟩
  go_wp2_with fail
  refine (isint_to _ false h0 h1 HI.out _).mono ?_
  rintro e w' ⟨rfl, rfl⟩
  go_wp2_with fail
  refine (isptr_to _ false h0 h1 HP.out _).mono ?_
  rintro e w' ⟨rfl, rfl⟩
  go_wp2_with fail
  refine (known_any _ HT.out).mono ?_
  rintro e w1 ⟨rfl, hb⟩
  go_wp2_with fail
  go_ret
  exact ⟨rfl, hb⟩
theorem numApart_walk (n m a u : Int) (h0 : 0 ≤ u) (h1 : u ≤ 18446744073709551615) (w : World) (ht : Tab w) :
    Calls Tryd.prog 11 #[.int .i64 n, .int .i64 m, .int .i64 a, .int .u64 u] w fun e w' => e = .returned (.bool true) ∧ Below w.heap.size w w' := by
  cases hi : isIntB u
  · cases hp : isPtrB u
    · by_cases ha : a < 1
      · exact numApart_no_lo n m a u h0 h1 hi hp ha w ht
      · by_cases hb : a ≤ 1099511627776
        · exact numApart_no_in n m a u h0 h1 hi hp (by omega) hb w ht
        · exact numApart_no_hi n m a u h0 h1 hi hp (by omega) w ht
    · by_cases ha : a < 1
      · exact numApart_ptr_lo n m a u h0 h1 hi hp ha w ht
      · by_cases hb : a ≤ 1099511627776
        · exact numApart_ptr_in n m a u h0 h1 hi hp (by omega) hb w ht
        · exact numApart_ptr_hi n m a u h0 h1 hi hp (by omega) w ht
  · by_cases ha : a < 1
    · exact numApart_int_lo n m a u h0 h1 hi ha w ht
    · by_cases hb : a ≤ 1099511627776
      · exact numApart_int_in n m a u h0 h1 hi (by omega) hb w ht
      · exact numApart_int_hi n m a u h0 h1 hi (by omega) w ht
end Go.Proofs.YtladgbfmfhmpiaaDoor
