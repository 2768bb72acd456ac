/- Contracts of the words of integers and of addresses in package num and in the reference, as gc wants them. Conditions: the arguments are of their Go kinds. -/
import Derived.WalkKit
import Derived.Outline
import Derived.Lib.Hide
import Derived.IntWalk
import Derived.WalkLawsBesides
import Derived.WalkSpells
import Derived.Test.YtjdhjehnofediaaMath
import Derived.Test.YtjdhjehnofediaaMemHead
import Derived.Laws.Bits64b
import Derived.Laws.BitsAllLaws
import Derived.PlainAid
import Derived.WalkSmall
namespace Go.Proofs.Ytjdhjehnofediaa
open Go Go.RowKit
set_option maxHeartbeats 400000 in
theorem refwrap_any (n : Int) (w : World) (h0 : -9223372036854775808 ≤ n) (h1 : n ≤ 9223372036854775807) :
    Calls Try.prog 88 #[.int .i64 n] w fun e w' => e = .returned (.int .i64 (W n)) ∧ w = w' := by
  go_enter Try.func88, Try.ntmps88
  go_wp2
  · go_ret
    exact ⟨ret_int (W_down (by assumption) h1), rfl⟩
  · go_ret
    exact ⟨ret_int (W_up (by assumption) h0), rfl⟩
  · go_ret
    exact ⟨ret_int (W_id (by assumption) (by omega)).symm, rfl⟩
/-- the word of an integer -/
def intW (n : Int) : Int := (2 * n + 1) % 18446744073709551616
def ptrW (a : Int) : Int := if 1 ≤ a ∧ a ≤ 1099511627776 then 2 * a else 1
def isIntB (w : Int) : Bool := decide (w % 2 = 1)
def isPtrB (w : Int) : Bool := decide (w % 2 = 0 ∧ 2 ≤ w ∧ w ≤ 2199023255552)
def toI (w : Int) : Int := if w % 2 = 1 then W (w / 2) else 0
def toP (w : Int) : Int := if w % 2 = 0 ∧ 2 ≤ w ∧ w ≤ 2199023255552 then w / 2 else 0
theorem u64_or1 (x : Int) (h0 : 0 ≤ x) (h1 : x < 18446744073709551616) (h2 : x % 2 = 0) : bits .or .u64 x 1 = x + 1 := by
  have h := u64_or x 1 h0 h1 (by decide) (by decide)
  have e := nat_join 1 x.toNat 1 (by omega) (by decide)
  have e2 : (1 : Int).toNat = 1 := by decide
  rw [e2, e] at h
  rw [h]; omega
theorem u64w (x : Int) : IntKind.u64.wrap x = x % 18446744073709551616 := by rw [IntKind.wrap_u64]
theorem int_eq (n : Int) : bits BinOp.or IntKind.u64 (IntKind.u64.wrap (IntKind.u64.wrap n * 2)) 1 = intW n := by
  rw [u64w, u64w, u64_or1 _ (by omega) (by omega) (by omega)]; unfold intW; omega
theorem refint_eq (n : Int) : IntKind.u64.wrap (IntKind.u64.wrap (2 * IntKind.u64.wrap (W n)) + 1) = intW n := by
  rw [u64w, u64w, u64w]; unfold intW W; omega
theorem and1 (n : Int) (h0 : 0 ≤ n) (h1 : n ≤ 18446744073709551615) : bits BinOp.and IntKind.u64 n 1 = n % 2 := and_one_u64 n h0 h1
theorem isInt_eq (n : Int) : (n % 2 == 1) = isIntB n := by unfold isIntB; rw [Bool.eq_iff_iff]; simp
theorem ptrW_in {n : Int} (h0 : 1 ≤ n) (h1 : n ≤ 1099511627776) : ptrW n = 2 * n := by unfold ptrW; rw [if_pos ⟨h0, h1⟩]
theorem ptrW_out {n : Int} (h : ¬ (1 ≤ n ∧ n ≤ 1099511627776)) : ptrW n = 1 := by unfold ptrW; rw [if_neg h]
theorem intW_0 : intW 0 = 1 := by decide
set_option maxHeartbeats 400000 in
theorem int_any (n : Int) (w : World) :
    Calls Try.prog 73 #[.int .i64 n] w fun e w' => e = .returned (.int .u64 (intW n)) ∧ w = w' := by
  go_enter Try.func73, Try.ntmps73
  go_wp2
  go_ret
  exact ⟨ret_int (int_eq n), rfl⟩
set_option maxHeartbeats 400000 in
theorem refint_any (n : Int) (w : World) (h0 : -9223372036854775808 ≤ n) (h1 : n ≤ 9223372036854775807) :
    Calls Try.prog 75 #[.int .i64 n] w fun e w' => e = .returned (.int .u64 (intW n)) ∧ w = w' := by
  go_enter Try.func75, Try.ntmps75
  go_wp2_with (go_at_call 88; refine (refwrap_any _ _ h0 h1).mono ?_; rintro e w' ⟨rfl, rfl⟩)
  go_ret
  exact ⟨ret_int (refint_eq n), rfl⟩
set_option maxHeartbeats 400000 in
theorem isint_any (n : Int) (w : World) (h0 : 0 ≤ n) (h1 : n ≤ 18446744073709551615) :
    Calls Try.prog 83 #[.int .u64 n] w fun e w' => e = .returned (.bool (isIntB n)) ∧ w = w' := by
  go_enter Try.func83, Try.ntmps83
  go_wp2
  go_ret
  exact ⟨ret_bool (by rw [and1 n h0 h1, isInt_eq]), rfl⟩
set_option maxHeartbeats 400000 in
theorem refisint_any (n : Int) (w : World) (h0 : 0 ≤ n) (h1 : n ≤ 18446744073709551615) :
    Calls Try.prog 36 #[.int .u64 n] w fun e w' => e = .returned (.bool (isIntB n)) ∧ w = w' := by
  go_enter Try.func36, Try.ntmps36
  go_wp2
  go_ret
  exact ⟨ret_bool (isInt_eq n), rfl⟩
set_option maxHeartbeats 400000 in
theorem ptr_any (n : Int) (w : World) :
    Calls Try.prog 82 #[.int .i64 n] w fun e w' => e = .returned (.int .u64 (ptrW n)) ∧ w = w' := by
  by_cases ha : n < 1
  · have hd : decide (n < 1) = true := by simpa using ha
    go_enter Try.func82, Try.ntmps82
    go_wp2_with (go_at_call 73; refine (int_any _ _).mono ?_; rintro e w' ⟨rfl, rfl⟩)
    go_ret
    exact ⟨ret_int (by rw [intW_0, ptrW_out (by omega)]), rfl⟩
  · by_cases hb : n ≤ 1099511627776
    · go_enter Try.func82, Try.ntmps82
      go_wp2
      go_ret
      exact ⟨ret_int (by rw [ptrW_in (by omega) (by omega), Int.mul_comm]), rfl⟩
    · go_enter Try.func82, Try.ntmps82
      go_wp2_with (go_at_call 73; refine (int_any _ _).mono ?_; rintro e w' ⟨rfl, rfl⟩)
      go_ret
      exact ⟨ret_int (by rw [intW_0, ptrW_out (by omega)]), rfl⟩
set_option maxHeartbeats 400000 in
theorem refptr_any (n : Int) (w : World) :
    Calls Try.prog 38 #[.int .i64 n] w fun e w' => e = .returned (.int .u64 (ptrW n)) ∧ w = w' := by
  by_cases ha : n < 1
  · have hd : decide (n < 1) = true := by simpa using ha
    go_enter Try.func38, Try.ntmps38
    go_wp2
    go_ret
    exact ⟨ret_int (by rw [ptrW_out (by omega)]), rfl⟩
  · by_cases hb : n ≤ 1099511627776
    · go_enter Try.func38, Try.ntmps38
      go_wp2
      go_ret
      exact ⟨ret_int (by rw [ptrW_in (by omega) (by omega)]), rfl⟩
    · go_enter Try.func38, Try.ntmps38
      go_wp2
      go_ret
      exact ⟨ret_int (by rw [ptrW_out (by omega)]), rfl⟩
theorem isPtr_no {w : Int} (h : w % 2 = 1) : isPtrB w = false := by unfold isPtrB; rw [decide_eq_false_iff_not]; omega
theorem isPtr_lo {w : Int} (h : w < 2) : isPtrB w = false := by unfold isPtrB; rw [decide_eq_false_iff_not]; omega
theorem isPtr_hi {w : Int} (h : 2199023255552 < w) : isPtrB w = false := by unfold isPtrB; rw [decide_eq_false_iff_not]; omega
theorem isPtr_yes {w : Int} (h : w % 2 = 0) (h0 : 2 ≤ w) (h1 : w ≤ 2199023255552) : isPtrB w = true := by unfold isPtrB; rw [decide_eq_true_eq]; omega
set_option maxHeartbeats 400000 in
theorem isptr_any (n : Int) (w : World) (h0 : 0 ≤ n) (h1 : n ≤ 18446744073709551615) :
    Calls Try.prog 55 #[.int .u64 n] w fun e w' => e = .returned (.bool (isPtrB n)) ∧ w = w' := by
  have ha := and1 n h0 h1
  rcases Int.emod_two_eq n with hp | hp
  · have hb : (bits BinOp.and IntKind.u64 n 1 == 0) = true := by rw [ha, hp]; rfl
    have HP := Lib.hid hp
    clear ha hp
    by_cases h2 : 2 ≤ n
    · by_cases h3 : n ≤ 2199023255552
      · go_enter Try.func55, Try.ntmps55
        go_wp2
        go_ret
        exact ⟨ret_bool (by rw [isPtr_yes HP.out h2 h3]), rfl⟩
      · go_enter Try.func55, Try.ntmps55
        go_wp2
        go_ret
        exact ⟨ret_bool (by rw [isPtr_hi (by omega)]), rfl⟩
    · have h2d : decide (2 ≤ n) = false := by simpa using h2
      go_enter Try.func55, Try.ntmps55
      go_wp2
      go_ret
      exact ⟨ret_bool (by rw [isPtr_lo (by omega)]), rfl⟩
  · have hb : (bits BinOp.and IntKind.u64 n 1 == 0) = false := by rw [ha, hp]; rfl
    have HP := Lib.hid hp
    clear ha hp
    go_enter Try.func55, Try.ntmps55
    go_wp2
    go_ret
    exact ⟨ret_bool (by rw [isPtr_no HP.out]), rfl⟩
set_option maxHeartbeats 400000 in
theorem refisptr_any (n : Int) (w : World) (h0 : 0 ≤ n) (h1 : n ≤ 18446744073709551615) :
    Calls Try.prog 67 #[.int .u64 n] w fun e w' => e = .returned (.bool (isPtrB n)) ∧ w = w' := by
  rcases Int.emod_two_eq n with hp | hp
  · have hb : (n % 2 == 0) = true := by rw [hp]; rfl
    have HP := Lib.hid hp
    clear hp
    by_cases h2 : 2 ≤ n
    · have h2b : 1 ≤ n / 2 := by omega
      by_cases h3 : n ≤ 2199023255552
      · have h3b : n / 2 ≤ 1099511627776 := by omega
        go_enter Try.func67, Try.ntmps67
        go_wp2
        go_ret
        exact ⟨ret_bool (by rw [isPtr_yes HP.out h2 h3]), rfl⟩
      · have HQ := Lib.hid HP.out
        have h3b : ¬ n / 2 ≤ 1099511627776 := by have := HQ.out; omega
        go_enter Try.func67, Try.ntmps67
        go_wp2
        go_ret
        exact ⟨ret_bool (by rw [isPtr_hi (by omega)]), rfl⟩
    · have h2d : decide (1 ≤ n / 2) = false := by rw [decide_eq_false_iff_not]; omega
      go_enter Try.func67, Try.ntmps67
      go_wp2
      go_ret
      exact ⟨ret_bool (by rw [isPtr_lo (by omega)]), rfl⟩
  · have hb : (n % 2 == 0) = false := by rw [hp]; rfl
    have HP := Lib.hid hp
    clear hp
    go_enter Try.func67, Try.ntmps67
    go_wp2
    go_ret
    exact ⟨ret_bool (by rw [isPtr_no HP.out]), rfl⟩
theorem isIntB_of {n : Int} : isIntB n = true ↔ n % 2 = 1 := by unfold isIntB; simp
theorem isIntB_not {n : Int} : isIntB n = false ↔ n % 2 = 0 := by unfold isIntB; rw [decide_eq_false_iff_not]; omega
theorem isPtrB_of {n : Int} : isPtrB n = true ↔ n % 2 = 0 ∧ 2 ≤ n ∧ n ≤ 2199023255552 := by unfold isPtrB; simp
theorem toI_no {n : Int} (h : isIntB n = false) : toI n = 0 := by have := isIntB_not.1 h; unfold toI; rw [if_neg (by omega)]
theorem toI_yes {n : Int} (h : isIntB n = true) : toI n = W (n / 2) := by have := isIntB_of.1 h; unfold toI; rw [if_pos this]
theorem toP_no {n : Int} (h : isPtrB n = false) : toP n = 0 := by unfold toP; rw [if_neg (fun x => by rw [isPtrB_of.2 x] at h; cases h)]
theorem toP_yes {n : Int} (h : isPtrB n = true) : toP n = n / 2 := by unfold toP; rw [if_pos (isPtrB_of.1 h)]
theorem toI_num {n : Int} (h : n % 2 = 1) : wrap64 n / 2 = W (n / 2) := by unfold wrap64 W; omega
set_option maxHeartbeats 400000 in
theorem toptr_any (n : Int) (w : World) (h0 : 0 ≤ n) (h1 : n ≤ 18446744073709551615) :
    Calls Try.prog 81 #[.int .u64 n] w fun e w' => e = .returned (.int .i64 (toP n)) ∧ w = w' := by
  cases hb : isPtrB n
  · go_enter Try.func81, Try.ntmps81
    go_wp2_with (go_at_call 55; refine (isptr_any _ _ h0 h1).mono ?_; rintro e w' ⟨rfl, rfl⟩)
    go_ret
    exact ⟨ret_int (toP_no hb).symm, rfl⟩
  · have h5 := (isPtrB_of.1 hb).2.2
    go_enter Try.func81, Try.ntmps81
    go_wp2_with (go_at_call 55; refine (isptr_any _ _ h0 h1).mono ?_; rintro e w' ⟨rfl, rfl⟩)
    go_ret
    exact ⟨ret_int (toP_yes hb).symm, rfl⟩
set_option maxHeartbeats 400000 in
theorem reftoptr_any (n : Int) (w : World) (h0 : 0 ≤ n) (h1 : n ≤ 18446744073709551615) :
    Calls Try.prog 37 #[.int .u64 n] w fun e w' => e = .returned (.int .i64 (toP n)) ∧ w = w' := by
  cases hb : isPtrB n
  · go_enter Try.func37, Try.ntmps37
    go_wp2_with (go_at_call 67; refine (refisptr_any _ _ h0 h1).mono ?_; rintro e w' ⟨rfl, rfl⟩)
    go_ret
    exact ⟨ret_int (toP_no hb).symm, rfl⟩
  · have h5 := (isPtrB_of.1 hb).2.2
    go_enter Try.func37, Try.ntmps37
    go_wp2_with (go_at_call 67; refine (refisptr_any _ _ h0 h1).mono ?_; rintro e w' ⟨rfl, rfl⟩)
    go_ret
    exact ⟨ret_int (toP_yes hb).symm, rfl⟩
end Go.Proofs.Ytjdhjehnofediaa
