/- Contracts of the words of integers and of addresses in package num and in the reference: each only computes. Conditions: the arguments are of their Go kinds. -/
import Derived.Test.YtpoblealgooamaaGreatDoorNum
import Derived.Laws.Bits64b
import Derived.Laws.BitsAllLaws
import Derived.PlainAid
import Derived.WalkSmall
namespace Go.Proofs.YtpoblealgooamaaGreatDoor
open Go Go.RowKit
/-- the word of an integer -/
def intW (n : Int) : Int := (2 * n + 1) % 18446744073709551616
def ptrW (a : Int) : Int := if 1 ≤ a ∧ a ≤ 1099511627776 then 2 * a else 1
def isIntB (w : Int) : Bool := decide (w % 2 = 1)
def isPtrB (w : Int) : Bool := decide (w % 2 = 0 ∧ 2 ≤ w ∧ w ≤ 2199023255552)
def toI (w : Int) : Int := if w % 2 = 1 then W (w / 2) else 0
def toP (w : Int) : Int := if w % 2 = 0 ∧ 2 ≤ w ∧ w ≤ 2199023255552 then w / 2 else 0
theorem u64_or1 (x : Int) (h0 : 0 ≤ x) (h1 : x < 18446744073709551616) (h2 : x % 2 = 0) : bits .or .u64 x 1 = x + 1 := by
  have h := u64_or x 1 h0 h1 (by decide) (by decide)
  have e := nat_join 1 x.toNat 1 (by omega) (by decide)
  have e2 : (1 : Int).toNat = 1 := by decide
  rw [e2, e] at h
  rw [h]; omega
theorem u64w (x : Int) : IntKind.u64.wrap x = x % 18446744073709551616 := by rw [IntKind.wrap_u64]
theorem int_eq (n : Int) : bits BinOp.or IntKind.u64 (IntKind.u64.wrap (IntKind.u64.wrap n * 2)) 1 = intW n := by
  rw [u64w, u64w, u64_or1 _ (by omega) (by omega) (by omega)]; unfold intW; omega
theorem refint_eq (n : Int) : IntKind.u64.wrap (IntKind.u64.wrap (2 * IntKind.u64.wrap (W n)) + 1) = intW n := by
  rw [u64w, u64w, u64w]; unfold intW W; omega
theorem and1 (n : Int) (h0 : 0 ≤ n) (h1 : n ≤ 18446744073709551615) : bits BinOp.and IntKind.u64 n 1 = n % 2 := and_one_u64 n h0 h1
theorem isInt_eq (n : Int) : (n % 2 == 1) = isIntB n := by unfold isIntB; rw [Bool.eq_iff_iff]; simp
theorem ptrW_in {n : Int} (h0 : 1 ≤ n) (h1 : n ≤ 1099511627776) : ptrW n = 2 * n := by unfold ptrW; rw [if_pos ⟨h0, h1⟩]
theorem ptrW_out {n : Int} (h : ¬ (1 ≤ n ∧ n ≤ 1099511627776)) : ptrW n = 1 := by unfold ptrW; rw [if_neg h]
theorem intW_0 : intW 0 = 1 := by decide
set_option maxHeartbeats 400000 in
theorem int_any (n : Int) (w : World) :
    Calls Tryz.prog 19 #[.int .i64 n] w fun e w' => e = .returned (.int .u64 (intW n)) ∧ w = w' := by
  go_enter Tryz.func19, Tryz.ntmps19
  go_wp2
  go_ret
  exact ⟨ret_int (int_eq n), rfl⟩
set_option maxHeartbeats 400000 in
theorem refint_any (n : Int) (w : World) (h0 : -9223372036854775808 ≤ n) (h1 : n ≤ 9223372036854775807) :
    Calls Tryz.prog 21 #[.int .i64 n] w fun e w' => e = .returned (.int .u64 (intW n)) ∧ w = w' := by
  go_enter Tryz.func21, Tryz.ntmps21
  go_wp2_with (go_at_call 44; refine (refwrap_any _ _ h0 h1).mono ?_; rintro e w' ⟨rfl, rfl⟩)
  go_ret
  exact ⟨ret_int (refint_eq n), rfl⟩
set_option maxHeartbeats 400000 in
theorem isint_any (n : Int) (w : World) (h0 : 0 ≤ n) (h1 : n ≤ 18446744073709551615) :
    Calls Tryz.prog 89 #[.int .u64 n] w fun e w' => e = .returned (.bool (isIntB n)) ∧ w = w' := by
  go_enter Tryz.func89, Tryz.ntmps89
  go_wp2
  go_ret
  exact ⟨ret_bool (by rw [and1 n h0 h1, isInt_eq]), rfl⟩
set_option maxHeartbeats 400000 in
theorem ptr_any (n : Int) (w : World) :
    Calls Tryz.prog 77 #[.int .i64 n] w fun e w' => e = .returned (.int .u64 (ptrW n)) ∧ w = w' := by
  by_cases ha : n < 1
  · have hd : decide (n < 1) = true := by simpa using ha
    go_enter Tryz.func77, Tryz.ntmps77
    go_wp2_with (go_at_call 19; refine (int_any _ _).mono ?_; rintro e w' ⟨rfl, rfl⟩)
    go_ret
    exact ⟨ret_int (by rw [intW_0, ptrW_out (by omega)]), rfl⟩
  · by_cases hb : n ≤ 1099511627776
    · go_enter Tryz.func77, Tryz.ntmps77
      go_wp2
      go_ret
      exact ⟨ret_int (by rw [ptrW_in (by omega) (by omega), Int.mul_comm]), rfl⟩
    · go_enter Tryz.func77, Tryz.ntmps77
      go_wp2_with (go_at_call 19; refine (int_any _ _).mono ?_; rintro e w' ⟨rfl, rfl⟩)
      go_ret
      exact ⟨ret_int (by rw [intW_0, ptrW_out (by omega)]), rfl⟩
theorem isPtr_no {w : Int} (h : w % 2 = 1) : isPtrB w = false := by unfold isPtrB; rw [decide_eq_false_iff_not]; omega
theorem isPtr_lo {w : Int} (h : w < 2) : isPtrB w = false := by unfold isPtrB; rw [decide_eq_false_iff_not]; omega
theorem isPtr_hi {w : Int} (h : 2199023255552 < w) : isPtrB w = false := by unfold isPtrB; rw [decide_eq_false_iff_not]; omega
theorem isPtr_yes {w : Int} (h : w % 2 = 0) (h0 : 2 ≤ w) (h1 : w ≤ 2199023255552) : isPtrB w = true := by unfold isPtrB; rw [decide_eq_true_eq]; omega
set_option maxHeartbeats 400000 in
theorem isptr_any (n : Int) (w : World) (h0 : 0 ≤ n) (h1 : n ≤ 18446744073709551615) :
    Calls Tryz.prog 26 #[.int .u64 n] w fun e w' => e = .returned (.bool (isPtrB n)) ∧ w = w' := by
  have ha := and1 n h0 h1
  rcases Int.emod_two_eq n with hp | hp
  · have hb : (bits BinOp.and IntKind.u64 n 1 == 0) = true := by rw [ha, hp]; rfl
    have HP := Lib.hid hp
    clear ha hp
    by_cases h2 : 2 ≤ n
    · by_cases h3 : n ≤ 2199023255552
      · go_enter Tryz.func26, Tryz.ntmps26
        go_wp2
        go_ret
        exact ⟨ret_bool (by rw [isPtr_yes HP.out h2 h3]), rfl⟩
      · go_enter Tryz.func26, Tryz.ntmps26
        go_wp2
        go_ret
        exact ⟨ret_bool (by rw [isPtr_hi (by omega)]), rfl⟩
    · have h2d : decide (2 ≤ n) = false := by simpa using h2
      go_enter Tryz.func26, Tryz.ntmps26
      go_wp2
      go_ret
      exact ⟨ret_bool (by rw [isPtr_lo (by omega)]), rfl⟩
  · have hb : (bits BinOp.and IntKind.u64 n 1 == 0) = false := by rw [ha, hp]; rfl
    have HP := Lib.hid hp
    clear ha hp
    go_enter Tryz.func26, Tryz.ntmps26
    go_wp2
    go_ret
    exact ⟨ret_bool (by rw [isPtr_no HP.out]), rfl⟩
theorem isIntB_of {n : Int} : isIntB n = true ↔ n % 2 = 1 := by unfold isIntB; simp
theorem isIntB_not {n : Int} : isIntB n = false ↔ n % 2 = 0 := by unfold isIntB; rw [decide_eq_false_iff_not]; omega
theorem isPtrB_of {n : Int} : isPtrB n = true ↔ n % 2 = 0 ∧ 2 ≤ n ∧ n ≤ 2199023255552 := by unfold isPtrB; simp
theorem toI_no {n : Int} (h : isIntB n = false) : toI n = 0 := by have := isIntB_not.1 h; unfold toI; rw [if_neg (by omega)]
theorem toI_yes {n : Int} (h : isIntB n = true) : toI n = W (n / 2) := by have := isIntB_of.1 h; unfold toI; rw [if_pos this]
theorem toP_no {n : Int} (h : isPtrB n = false) : toP n = 0 := by unfold toP; rw [if_neg (fun x => by rw [isPtrB_of.2 x] at h; cases h)]
theorem toP_yes {n : Int} (h : isPtrB n = true) : toP n = n / 2 := by unfold toP; rw [if_pos (isPtrB_of.1 h)]
theorem toI_num {n : Int} (h : n % 2 = 1) : wrap64 n / 2 = W (n / 2) := by unfold wrap64 W; omega
set_option maxHeartbeats 400000 in
theorem toint_any (n : Int) (w : World) (h0 : 0 ≤ n) (h1 : n ≤ 18446744073709551615) :
    Calls Tryz.prog 90 #[.int .u64 n] w fun e w' => e = .returned (.int .i64 (toI n)) ∧ w = w' := by
  cases hb : isIntB n
  · go_enter Tryz.func90, Tryz.ntmps90
    go_wp2_with (go_at_call 89; refine (isint_any _ _ h0 h1).mono ?_; rintro e w' ⟨rfl, rfl⟩)
    go_ret
    exact ⟨ret_int (toI_no hb).symm, rfl⟩
  · go_enter Tryz.func90, Tryz.ntmps90
    go_wp2_with (go_at_call 89; refine (isint_any _ _ h0 h1).mono ?_; rintro e w' ⟨rfl, rfl⟩)
    go_ret
    exact ⟨ret_int (by rw [toI_yes hb]; exact toI_num (isIntB_of.1 hb)), rfl⟩
set_option maxHeartbeats 400000 in
theorem toptr_any (n : Int) (w : World) (h0 : 0 ≤ n) (h1 : n ≤ 18446744073709551615) :
    Calls Tryz.prog 51 #[.int .u64 n] w fun e w' => e = .returned (.int .i64 (toP n)) ∧ w = w' := by
  cases hb : isPtrB n
  · go_enter Tryz.func51, Tryz.ntmps51
    go_wp2_with (go_at_call 26; refine (isptr_any _ _ h0 h1).mono ?_; rintro e w' ⟨rfl, rfl⟩)
    go_ret
    exact ⟨ret_int (toP_no hb).symm, rfl⟩
  · have h5 := (isPtrB_of.1 hb).2.2
    go_enter Tryz.func51, Tryz.ntmps51
    go_wp2_with (go_at_call 26; refine (isptr_any _ _ h0 h1).mono ?_; rintro e w' ⟨rfl, rfl⟩)
    go_ret
    exact ⟨ret_int (toP_yes hb).symm, rfl⟩
end Go.Proofs.YtpoblealgooamaaGreatDoor
