/- Contracts of the leaf functions of package num and of the reference: each only computes. Conditions: the arguments are of their Go kinds. -/
import Derived.WalkKit
import Derived.Outline
import Derived.Lib.Hide
import Derived.IntWalk
import Derived.WalkLawsBesides
import Derived.WalkSpells
import Derived.Test.YtladgbfmfhmpiaaDoorMath
import Derived.Test.YtladgbfmfhmpiaaDoorProg
namespace Go.Proofs.YtladgbfmfhmpiaaDoor
open Go Go.RowKit
theorem ret_int {k : IntKind} {a b : Int} (h : a = b) : Ending.returned (.int k a) = .returned (.int k b) := by rw [h]
theorem ret_bool {a b : Bool} (h : a = b) : Ending.returned (.bool a) = .returned (.bool b) := by rw [h]

set_option maxHeartbeats 400000 in
theorem wrap_any (n : Int) (w : World) :
    Calls Tryd.prog 14 #[.int .i64 n] w fun e w' => e = .returned (.int .i64 (W n)) ∧ w = w' := by
  go_enter Tryd.func14, Tryd.ntmps14
  go_wp2
  go_ret
  exact ⟨ret_int (W_half n), rfl⟩
set_option maxHeartbeats 400000 in
theorem refwrap_any (n : Int) (w : World) (h0 : -9223372036854775808 ≤ n) (h1 : n ≤ 9223372036854775807) :
    Calls Tryd.prog 15 #[.int .i64 n] w fun e w' => e = .returned (.int .i64 (W n)) ∧ w = w' := by
  go_enter Tryd.func15, Tryd.ntmps15
  go_wp2
  · go_ret
    exact ⟨ret_int (W_down (by assumption) h1), rfl⟩
  · go_ret
    exact ⟨ret_int (W_up (by assumption) h0), rfl⟩
  · go_ret
    exact ⟨ret_int (W_id (by assumption) (by omega)).symm, rfl⟩
set_option maxHeartbeats 400000 in
theorem fit_any (n : Int) (w : World) :
    Calls Tryd.prog 16 #[.int .i64 n] w fun e w' => e = .returned (.bool (fitB n)) ∧ w = w' := by
  by_cases h : -4611686018427387904 ≤ n
  · go_enter Tryd.func16, Tryd.ntmps16
    go_wp2
    go_ret
    exact ⟨ret_bool (by unfold fitB; simp [h]), rfl⟩
  · have hd : decide (-4611686018427387904 ≤ n) = false := by simpa using h
    go_enter Tryd.func16, Tryd.ntmps16
    go_wp2
    go_ret
    exact ⟨ret_bool (by unfold fitB; symm; rw [decide_eq_false_iff_not]; omega), rfl⟩
set_option maxHeartbeats 400000 in
theorem add_any (a b : Int) (w : World) :
    Calls Tryd.prog 17 #[.int .i64 a, .int .i64 b] w fun e w' => e = .returned (.int .i64 (W (a + b))) ∧ w = w' := by
  go_enter Tryd.func17, Tryd.ntmps17
  go_wp2_with (go_at_call 14; refine (wrap_any _ _).mono ?_; rintro e w' ⟨rfl, rfl⟩)
  go_ret
  exact ⟨ret_int (W_wrap64 _), rfl⟩
set_option maxHeartbeats 400000 in
theorem sub_any (a b : Int) (w : World) :
    Calls Tryd.prog 19 #[.int .i64 a, .int .i64 b] w fun e w' => e = .returned (.int .i64 (W (a - b))) ∧ w = w' := by
  go_enter Tryd.func19, Tryd.ntmps19
  go_wp2_with (go_at_call 14; refine (wrap_any _ _).mono ?_; rintro e w' ⟨rfl, rfl⟩)
  go_ret
  exact ⟨ret_int (W_wrap64 _), rfl⟩
set_option maxHeartbeats 400000 in
theorem mul_any (a b : Int) (w : World) :
    Calls Tryd.prog 21 #[.int .i64 a, .int .i64 b] w fun e w' => e = .returned (.int .i64 (W (a * b))) ∧ w = w' := by
  go_enter Tryd.func21, Tryd.ntmps21
  go_wp2_with (go_at_call 14; refine (wrap_any _ _).mono ?_; rintro e w' ⟨rfl, rfl⟩)
  go_ret
  exact ⟨ret_int (W_wrap64 _), rfl⟩
set_option maxHeartbeats 400000 in
theorem neg_any (a : Int) (w : World) :
    Calls Tryd.prog 23 #[.int .i64 a] w fun e w' => e = .returned (.int .i64 (W (-a))) ∧ w = w' := by
  go_enter Tryd.func23, Tryd.ntmps23
  go_wp2_with (go_at_call 19; refine (sub_any _ _ _).mono ?_; rintro e w' ⟨rfl, rfl⟩)
  go_ret
  exact ⟨ret_int (by simp), rfl⟩
set_option maxHeartbeats 400000 in
theorem refadd_any (a b : Int) (w : World) (h0 : -9223372036854775808 ≤ a) (h1 : a ≤ 9223372036854775807) (g0 : -9223372036854775808 ≤ b) (g1 : b ≤ 9223372036854775807) :
    Calls Tryd.prog 18 #[.int .i64 a, .int .i64 b] w fun e w' => e = .returned (.int .i64 (W (a + b))) ∧ w = w' := by
  have := W_lo a; have := W_hi a; have := W_lo b; have := W_hi b
  go_enter Tryd.func18, Tryd.ntmps18
  go_wp2_with fail
  refine (refwrap_any _ _ h0 h1).mono ?_
  rintro e w' ⟨rfl, rfl⟩
  go_wp2_with fail
  refine (refwrap_any _ _ g0 g1).mono ?_
  rintro e w' ⟨rfl, rfl⟩
  go_wp2_with fail
  refine (refwrap_any _ _ (by omega) (by omega)).mono ?_
  rintro e w' ⟨rfl, rfl⟩
  go_wp2_with fail
  go_ret
  exact ⟨ret_int (by rw [W_addl, W_addr]), rfl⟩
set_option maxHeartbeats 400000 in
theorem refneg_any (a : Int) (w : World) (h0 : -9223372036854775808 ≤ a) (h1 : a ≤ 9223372036854775807) :
    Calls Tryd.prog 24 #[.int .i64 a] w fun e w' => e = .returned (.int .i64 (W (-a))) ∧ w = w' := by
  have := W_lo a; have := W_hi a
  go_enter Tryd.func24, Tryd.ntmps24
  go_wp2_with fail
  refine (refwrap_any _ _ h0 h1).mono ?_
  rintro e w' ⟨rfl, rfl⟩
  go_wp2_with fail
  refine (refwrap_any _ _ (by omega) (by omega)).mono ?_
  rintro e w' ⟨rfl, rfl⟩
  go_wp2_with fail
  go_ret
  exact ⟨ret_int (W_neg a), rfl⟩
set_option maxHeartbeats 400000 in
theorem refsub_any (a b : Int) (w : World) (h0 : -9223372036854775808 ≤ a) (h1 : a ≤ 9223372036854775807) (g0 : -9223372036854775808 ≤ b) (g1 : b ≤ 9223372036854775807) :
    Calls Tryd.prog 20 #[.int .i64 a, .int .i64 b] w fun e w' => e = .returned (.int .i64 (W (a - b))) ∧ w = w' := by
  have := W_lo (-b); have := W_hi (-b)
  go_enter Tryd.func20, Tryd.ntmps20
  go_wp2_with fail
  refine (refneg_any _ _ g0 g1).mono ?_
  rintro e w' ⟨rfl, rfl⟩
  go_wp2_with fail
  refine (refadd_any _ _ _ h0 h1 (by omega) (by omega)).mono ?_
  rintro e w' ⟨rfl, rfl⟩
  go_wp2_with fail
  go_ret
  exact ⟨ret_int (by rw [W_addr, Int.sub_eq_add_neg]), rfl⟩
set_option maxHeartbeats 400000 in
theorem refmul_any (a b : Int) (w : World) (h0 : -9223372036854775808 ≤ a) (h1 : a ≤ 9223372036854775807) (g0 : -9223372036854775808 ≤ b) (g1 : b ≤ 9223372036854775807) :
    Calls Tryd.prog 22 #[.int .i64 a, .int .i64 b] w fun e w' => e = .returned (.int .i64 (W (a * b))) ∧ w = w' := by
  have := W_lo a; have := W_hi a; have := W_lo b; have := W_hi b
  go_enter Tryd.func22, Tryd.ntmps22
  go_wp2_with fail
  refine (refwrap_any _ _ h0 h1).mono ?_
  rintro e w' ⟨rfl, rfl⟩
  go_wp2_with fail
  refine (refwrap_any _ _ g0 g1).mono ?_
  rintro e w' ⟨rfl, rfl⟩
  go_wp2_with fail
  go_loop [5, 7, 8] (fun x sm i => ∃ k : Nat, k ≤ 63 ∧ i = .int .i64 k ∧ x = .int .i64 (W (a * 2 ^ k)) ∧ sm = .int .i64 (W (a * (W b % 2 ^ k)))) (fun _ _ i => 63 - (intOf i).toNat)
  case atStart => exact ⟨0, by omega, rfl, by simp, by simp [W]⟩
  case round =>
    obtain ⟨k, hk, rfl, rfl, rfl⟩ := hrel
    have hx0 := W_lo (a * 2 ^ k); have hx1 := W_hi (a * 2 ^ k)
    have hs0 := W_lo (a * (W b % 2 ^ k)); have hs1 := W_hi (a * (W b % 2 ^ k))
    by_cases hlt : k < 63
    · cases hb : (bits BinOp.and IntKind.i64 (W b / 2 ^ k) 1 == 1)
      · have HS := Lib.hid (mul_stay a b k hb)
        go_wp2_with fail
        refine (refadd_any _ _ _ (by omega) (by omega) (by omega) (by omega)).mono ?_
        rintro e w' ⟨rfl, rfl⟩
        go_wp2_with fail
        go_round
        case rel => exact ⟨k + 1, by omega, by go_num, by rw [mul_twice], by rw [HS.out]⟩
        case measure => simp [intOf]; omega
      · have HS := Lib.hid (mul_step a b k hb)
        go_wp2_with fail
        refine (refadd_any _ _ _ (by omega) (by omega) (by omega) (by omega)).mono ?_
        rintro e w' ⟨rfl, rfl⟩
        go_wp2_with fail
        refine (refadd_any _ _ _ (by omega) (by omega) (by omega) (by omega)).mono ?_
        rintro e w' ⟨rfl, rfl⟩
        go_wp2_with fail
        go_round
        case rel => exact ⟨k + 1, by omega, by go_num, by rw [mul_twice], by rw [HS.out]⟩
        case measure => simp [intOf]; omega
    · have HE := Lib.hid (mul_end a b)
      obtain rfl : k = 63 := by omega
      go_wp2_with fail
      go_ret
      exact ⟨ret_int HE.out, rfl⟩
end Go.Proofs.YtladgbfmfhmpiaaDoor
