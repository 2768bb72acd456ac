/- The reference's Right; mem's Header and split. Conditions: none. -/
import Derived.Test.YtlakfnlkiebpdaaDoorMemHead
namespace Go.Proofs.YtlakfnlkiebpdaaDoor
open Go Go.RowKit
set_option maxHeartbeats 1000000 in
theorem refright_a0 (k s t : Int) (k0 : k < 1) (w : World) : Calls Tryd.prog 84 #[.int .i64 k, .int .i64 s, .int .i64 t] w fun e w' => e = .returned (.bool false) ∧ w = w' := by
  go_enter Tryd.func84, Tryd.ntmps84
  go_wp2
  go_ret
  exact ⟨rfl, rfl⟩
set_option maxHeartbeats 1000000 in
theorem refright_a1 (k s t : Int) (k1 : 5 < k) (w : World) : Calls Tryd.prog 84 #[.int .i64 k, .int .i64 s, .int .i64 t] w fun e w' => e = .returned (.bool false) ∧ w = w' := by
  have q0 := (show ¬ k < 1 by omega)
  go_enter Tryd.func84, Tryd.ntmps84
  go_wp2
  go_ret
  exact ⟨rfl, rfl⟩
set_option maxHeartbeats 1000000 in
theorem refright_b0 (k s t : Int) (k0 : 1 ≤ k) (k1 : k ≤ 5) (h0 : s < 0) (w : World) : Calls Tryd.prog 84 #[.int .i64 k, .int .i64 s, .int .i64 t] w fun e w' => e = .returned (.bool false) ∧ w = w' := by
  go_enter Tryd.func84, Tryd.ntmps84
  go_wp2
  go_ret
  exact ⟨rfl, rfl⟩
set_option maxHeartbeats 1000000 in
theorem refright_b1 (k s t : Int) (k0 : 1 ≤ k) (k1 : k ≤ 5) (h1 : 16384 < s) (w : World) : Calls Tryd.prog 84 #[.int .i64 k, .int .i64 s, .int .i64 t] w fun e w' => e = .returned (.bool false) ∧ w = w' := by
  have q0 := (show ¬ s < 0 by omega)
  go_enter Tryd.func84, Tryd.ntmps84
  go_wp2
  go_ret
  exact ⟨rfl, rfl⟩
set_option maxHeartbeats 1000000 in
theorem refright_b2 (k s t : Int) (k0 : 1 ≤ k) (k1 : k ≤ 5) (h0 : 0 ≤ s) (h1 : s ≤ 16384) (h2 : t < 0) (w : World) : Calls Tryd.prog 84 #[.int .i64 k, .int .i64 s, .int .i64 t] w fun e w' => e = .returned (.bool false) ∧ w = w' := by
  go_enter Tryd.func84, Tryd.ntmps84
  go_wp2
  go_ret
  exact ⟨rfl, rfl⟩
set_option maxHeartbeats 1000000 in
theorem refright_b3 (k s t : Int) (k0 : 1 ≤ k) (k1 : k ≤ 5) (h0 : 0 ≤ s) (h1 : s ≤ 16384) (h2 : 0 ≤ t) (h3 : s < t) (w : World) : Calls Tryd.prog 84 #[.int .i64 k, .int .i64 s, .int .i64 t] w fun e w' => e = .returned (.bool false) ∧ w = w' := by
  go_enter Tryd.func84, Tryd.ntmps84
  go_wp2
  go_ret
  exact ⟨rfl, rfl⟩
set_option maxHeartbeats 1000000 in
theorem refright_k5 (s t : Int) (h0 : 0 ≤ s) (h1 : s ≤ 16384) (h2 : 0 ≤ t) (h3 : t ≤ s) (w : World) : Calls Tryd.prog 84 #[.int .i64 5, .int .i64 s, .int .i64 t] w fun e w' => e = .returned (.bool true) ∧ w = w' := by
  go_enter Tryd.func84, Tryd.ntmps84
  go_wp2
  go_ret
  exact ⟨rfl, rfl⟩
set_option maxHeartbeats 1000000 in
theorem refright_z (k : Int) (k0 : 1 ≤ k) (k1 : k ≤ 4) (w : World) : Calls Tryd.prog 84 #[.int .i64 k, .int .i64 0, .int .i64 0] w fun e w' => e = .returned (.bool false) ∧ w = w' := by
  have q0 := beqF (show k ≠ 5 by omega)
  go_enter Tryd.func84, Tryd.ntmps84
  go_wp2
  go_ret
  exact ⟨rfl, rfl⟩
set_option maxHeartbeats 1000000 in
theorem refright_k2n (s t : Int) (h0 : 1 ≤ s) (h1 : s ≤ 16384) (h2 : 0 ≤ t) (h3 : t ≤ s) (g : s ≠ 1) (w : World) : Calls Tryd.prog 84 #[.int .i64 2, .int .i64 s, .int .i64 t] w fun e w' => e = .returned (.bool false) ∧ w = w' := by
  have q0 := beqF (show s ≠ 0 by omega)
  have q1 := bneT g
  go_enter Tryd.func84, Tryd.ntmps84
  go_wp2
  go_ret
  exact ⟨rfl, rfl⟩
set_option maxHeartbeats 1000000 in
theorem refright_k2m (t : Int) (e : t ≠ 1) (h2 : 0 ≤ t) (h3 : t ≤ 1) (w : World) : Calls Tryd.prog 84 #[.int .i64 2, .int .i64 1, .int .i64 t] w fun e w' => e = .returned (.bool false) ∧ w = w' := by
  have q0 := beqF e
  go_enter Tryd.func84, Tryd.ntmps84
  go_wp2
  go_ret
  exact ⟨rfl, rfl⟩
set_option maxHeartbeats 1000000 in
theorem refright_k2y   (w : World) : Calls Tryd.prog 84 #[.int .i64 2, .int .i64 1, .int .i64 1] w fun e w' => e = .returned (.bool true) ∧ w = w' := by
  go_enter Tryd.func84, Tryd.ntmps84
  go_wp2
  go_ret
  exact ⟨rfl, rfl⟩
set_option maxHeartbeats 1000000 in
theorem refright_k4n (s t : Int) (h0 : 1 ≤ s) (h1 : s ≤ 16384) (h2 : 0 ≤ t) (h3 : t ≤ s) (e : t ≠ 0) (w : World) : Calls Tryd.prog 84 #[.int .i64 4, .int .i64 s, .int .i64 t] w fun e w' => e = .returned (.bool false) ∧ w = w' := by
  have q0 := beqF (show s ≠ 0 by omega)
  have q1 := beqF e
  go_enter Tryd.func84, Tryd.ntmps84
  go_wp2
  go_ret
  exact ⟨rfl, rfl⟩
set_option maxHeartbeats 1000000 in
theorem refright_k4y (s : Int) (h0 : 1 ≤ s) (h1 : s ≤ 16384) (w : World) : Calls Tryd.prog 84 #[.int .i64 4, .int .i64 s, .int .i64 0] w fun e w' => e = .returned (.bool true) ∧ w = w' := by
  have q0 := beqF (show s ≠ 0 by omega)
  go_enter Tryd.func84, Tryd.ntmps84
  go_wp2
  go_ret
  exact ⟨rfl, rfl⟩
set_option maxHeartbeats 1000000 in
theorem refright_k1n (s t : Int) (h0 : 1 ≤ s) (h1 : s ≤ 16384) (h2 : 0 ≤ t) (h3 : t ≤ s) (e : t ≠ s) (w : World) : Calls Tryd.prog 84 #[.int .i64 1, .int .i64 s, .int .i64 t] w fun e w' => e = .returned (.bool false) ∧ w = w' := by
  have q0 := beqF (show s ≠ 0 by omega)
  have q1 := beqF e
  go_enter Tryd.func84, Tryd.ntmps84
  go_wp2
  go_ret
  exact ⟨rfl, rfl⟩
set_option maxHeartbeats 1000000 in
theorem refright_k1y (s : Int) (h0 : 1 ≤ s) (h1 : s ≤ 16384) (w : World) : Calls Tryd.prog 84 #[.int .i64 1, .int .i64 s, .int .i64 s] w fun e w' => e = .returned (.bool true) ∧ w = w' := by
  have q0 := beqF (show s ≠ 0 by omega)
  go_enter Tryd.func84, Tryd.ntmps84
  go_wp2
  go_ret
  exact ⟨rfl, rfl⟩
set_option maxHeartbeats 1000000 in
theorem refright_k3n (s t : Int) (h0 : 1 ≤ s) (h1 : s ≤ 16384) (h2 : 0 ≤ t) (h3 : t ≤ s) (e : t ≠ s) (w : World) : Calls Tryd.prog 84 #[.int .i64 3, .int .i64 s, .int .i64 t] w fun e w' => e = .returned (.bool false) ∧ w = w' := by
  have q0 := beqF (show s ≠ 0 by omega)
  have q1 := beqF e
  go_enter Tryd.func84, Tryd.ntmps84
  go_wp2
  go_ret
  exact ⟨rfl, rfl⟩
set_option maxHeartbeats 1000000 in
theorem refright_k3y (s : Int) (h0 : 1 ≤ s) (h1 : s ≤ 16384) (w : World) : Calls Tryd.prog 84 #[.int .i64 3, .int .i64 s, .int .i64 s] w fun e w' => e = .returned (.bool true) ∧ w = w' := by
  have q0 := beqF (show s ≠ 0 by omega)
  go_enter Tryd.func84, Tryd.ntmps84
  go_wp2
  go_ret
  exact ⟨rfl, rfl⟩
theorem refright_any (k s t : Int) (w : World) : Calls Tryd.prog 84 #[.int .i64 k, .int .i64 s, .int .i64 t] w fun e w' => e = .returned (.bool (rightB k s t)) ∧ w = w' := by
  by_cases k0 : k < 1
  · rw [right_no (by omega)]; exact refright_a0 k s t k0 w
  by_cases k1 : 5 < k
  · rw [right_no (by omega)]; exact refright_a1 k s t k1 w
  by_cases h0 : s < 0
  · rw [right_no (by omega)]; exact refright_b0 k s t (by omega) (by omega) h0 w
  by_cases h1 : 16384 < s
  · rw [right_no (by omega)]; exact refright_b1 k s t (by omega) (by omega) h1 w
  by_cases h2 : t < 0
  · rw [right_no (by omega)]; exact refright_b2 k s t (by omega) (by omega) (by omega) (by omega) h2 w
  by_cases h3 : s < t
  · rw [right_no (by omega)]; exact refright_b3 k s t (by omega) (by omega) (by omega) (by omega) (by omega) h3 w
  by_cases e5 : k = 5
  · subst e5; rw [right_yes (by omega)]; exact refright_k5 s t (by omega) (by omega) (by omega) (by omega) w
  by_cases g : s = 0
  · subst g
    obtain rfl : t = 0 := by omega
    rw [right_no (by omega)]; exact refright_z k (by omega) (by omega) w
  by_cases e2 : k = 2
  · subst e2
    by_cases g : s = 1
    · subst g
      by_cases e : t = 1
      · subst e; rw [right_yes (by omega)]; exact refright_k2y w
      · rw [right_no (by omega)]; exact refright_k2m t e (by omega) (by omega) w
    · rw [right_no (by omega)]; exact refright_k2n s t (by omega) (by omega) (by omega) (by omega) g w
  by_cases e4 : k = 4
  · subst e4
    by_cases e : t = 0
    · subst e; rw [right_yes (by omega)]; exact refright_k4y s (by omega) (by omega) w
    · rw [right_no (by omega)]; exact refright_k4n s t (by omega) (by omega) (by omega) (by omega) e w
  by_cases e1 : k = 1
  · subst e1
    by_cases e : t = s
    · subst e; rw [right_yes (by omega)]; exact refright_k1y t (by omega) (by omega) w
    · rw [right_no (by omega)]; exact refright_k1n s t (by omega) (by omega) (by omega) (by omega) e w
  obtain rfl : k = 3 := by omega
  by_cases e : t = s
  · subst e; rw [right_yes (by omega)]; exact refright_k3y t (by omega) (by omega) w
  · rw [right_no (by omega)]; exact refright_k3n s t (by omega) (by omega) (by omega) (by omega) e w
theorem right_bd {k s t : Int} (h : rightB k s t = true) : 1 ≤ k ∧ k ≤ 5 ∧ 0 ≤ s ∧ s ≤ 16384 ∧ 0 ≤ t ∧ t ≤ s := by
  have := of_decide_eq_true h
  omega
def hdrI (k s t : Int) : Int := 1 + 2 * k + 16 * s + 268435456 * t
theorem or_addI (k : Nat) (x y : Int) (h0 : 0 ≤ x) (hx : x < 2 ^ k) (hk : k ≤ 63) (hy0 : 0 ≤ y) (hy : y % 2 ^ k = 0) (h2 : y < 18446744073709551616) : bits BinOp.or IntKind.u64 x y = x + y := by
  obtain ⟨X, rfl⟩ := Int.eq_ofNat_of_zero_le h0
  obtain ⟨Y, rfl⟩ := Int.eq_ofNat_of_zero_le hy0
  have hk2 : (2 : Nat) ^ k ≤ 2 ^ 63 := Nat.pow_le_pow_right (by decide) hk
  have hX : X < 2 ^ k := by exact_mod_cast hx
  have hY : Y % 2 ^ k = 0 := by exact_mod_cast hy
  have h63 : (2 : Nat) ^ 63 < 18446744073709551616 := by decide
  rw [u64_or_nat X Y (by omega) (by omega)]
  have e : Y = 2 ^ k * (Y / 2 ^ k) := by have := Nat.div_add_mod Y (2 ^ k); omega
  have h := Nat.two_pow_add_eq_or_of_lt hX (Y / 2 ^ k)
  rw [← e] at h
  rw [Nat.or_comm, ← h]
  omega
theorem hdr_isa {k s t : Int} (h : rightB k s t = true) : bits BinOp.or IntKind.u64 (bits BinOp.or IntKind.u64 (bits BinOp.or IntKind.u64 1 (k * 2)) (s * 16)) (t * 268435456) = hdrI k s t := by
  obtain ⟨a, b, c, d, e, f⟩ := right_bd h
  rw [or_addI 1 1 (k * 2) (by omega) (by omega) (by omega) (by omega) (by omega) (by omega), or_addI 4 (1 + k * 2) (s * 16) (by omega) (by omega) (by omega) (by omega) (by omega) (by omega), or_addI 28 _ (t * 268435456) (by omega) (by omega) (by omega) (by omega) (by omega) (by omega)]
  unfold hdrI
  omega
theorem ret2 {a b c d : Int} {x y : IntKind} (h1 : a = b) (h2 : c = d) : Ending.returned (.tuple #[.int x a, .int y c]) = .returned (.tuple #[.int x b, .int y d]) := by rw [h1, h2]
set_option maxHeartbeats 1000000 in
theorem header_yes (k s t : Int) (h : rightB k s t = true) (w : World) : Calls Tryd.prog 79 #[.int .i64 k, .int .i64 s, .int .i64 t] w fun e w' => e = .returned (.tuple #[.int .u64 (hdrI k s t), .int .i64 0]) ∧ w = w' := by
  obtain ⟨a, b, c, d, e, f⟩ := right_bd h
  have H := Lib.hid h
  clear h
  go_enter Tryd.func79, Tryd.ntmps79
  go_wp2_with fail
  refine (headed_any k s t _).mono ?_
  rintro e w' ⟨rfl, rfl⟩
  rw [H.out]
  go_wp2_with fail
  go_ret2
  exact ⟨ret2 (by exact hdr_isa H.out) rfl, rfl⟩
set_option maxHeartbeats 1000000 in
theorem header_no (k s t : Int) (h : rightB k s t = false) (w : World) : Calls Tryd.prog 79 #[.int .i64 k, .int .i64 s, .int .i64 t] w fun e w' => e = .returned (.tuple #[.int .u64 0, .int .i64 22]) ∧ w = w' := by
  have H := Lib.hid h
  clear h
  go_enter Tryd.func79, Tryd.ntmps79
  go_wp2_with fail
  refine (headed_any k s t _).mono ?_
  rintro e w' ⟨rfl, rfl⟩
  rw [H.out]
  go_wp2_with fail
  go_ret2
  exact ⟨rfl, rfl⟩
/-- the word of parts; 0, if they are none's -/
def headW (k s t : Int) : Int := if rightB k s t then hdrI k s t else 0
/-- what is wrong with parts -/
def headE (k s t : Int) : Int := if rightB k s t then 0 else 22
theorem header_any (k s t : Int) (w : World) : Calls Tryd.prog 79 #[.int .i64 k, .int .i64 s, .int .i64 t] w fun e w' => e = .returned (.tuple #[.int .u64 (headW k s t), .int .i64 (headE k s t)]) ∧ w = w' := by
  unfold headW headE
  cases h : rightB k s t
  · exact header_no k s t h w
  · exact header_yes k s t h w
def kN (N : Nat) : Int := ((N / 2 % 8 : Nat) : Int)
def zN (N : Nat) : Int := ((N / 16 % 16777216 : Nat) : Int)
def tN (N : Nat) : Int := ((N / 268435456 % 16777216 : Nat) : Int)
theorem and_mask (N j : Nat) (h : N < 18446744073709551616) (hj : j ≤ 32) : wrap64 (bits BinOp.and IntKind.u64 ((N : Nat) : Int) ((2 ^ j - 1 : Nat) : Int)) = ((N % 2 ^ j : Nat) : Int) := by
  have h32 : 2 ^ j ≤ 2 ^ 32 := Nat.pow_le_pow_right (by decide) hj
  have hp : 0 < 2 ^ j := Nat.pow_pos (by decide)
  rw [u64_and_nat N (2 ^ j - 1) h (by omega), Nat.and_two_pow_sub_one_eq_mod]
  have := Nat.mod_lt N hp
  unfold wrap64
  omega
theorem split_k (N : Nat) (h : N < 18446744073709551616) : wrap64 (bits BinOp.and IntKind.u64 ((N : Int) / 2) 7) = kN N := by
  have := and_mask (N / 2) 3 (by omega) (by decide)
  simpa [kN] using this
theorem split_z (N : Nat) (h : N < 18446744073709551616) : wrap64 (bits BinOp.and IntKind.u64 ((N : Int) / 16) 16777215) = zN N := by
  have := and_mask (N / 16) 24 (by omega) (by decide)
  simpa [zN] using this
theorem split_t (N : Nat) (h : N < 18446744073709551616) : wrap64 (bits BinOp.and IntKind.u64 ((N : Int) / 268435456) 16777215) = tN N := by
  have := and_mask (N / 268435456) 24 (by omega) (by decide)
  simpa [tN] using this
theorem ret3 {a b c d e f : Int} {x y z : IntKind} (h1 : a = b) (h2 : c = d) (h3 : e = f) : Ending.returned (.tuple #[.int x a, .int y c, .int z e]) = .returned (.tuple #[.int x b, .int y d, .int z f]) := by rw [h1, h2, h3]
set_option maxHeartbeats 1000000 in
theorem split_any (N : Nat) (h : N < 18446744073709551616) (w : World) : Calls Tryd.prog 87 #[.int .u64 N] w fun e w' => e = .returned (.tuple #[.int .i64 (kN N), .int .i64 (zN N), .int .i64 (tN N)]) ∧ w = w' := by
  have q0 := split_k N h
  have q1 := split_z N h
  have q2 := split_t N h
  go_enter Tryd.func87, Tryd.ntmps87
  go_wp2
  go_ret3
  exact ⟨ret3 q0 q1 q2, rfl⟩
theorem results_tmp4 {fn : Func} {t u v x : Tmp} (h : fn.results = #[.tmp t, .tmp u, .tmp v, .tmp x]) (tmps : Array Value) (P : Program) (w : World) :
    (results fn tmps).run P w = .ok (.tuple #[tmps.getD t undef, tmps.getD u undef, tmps.getD v undef, tmps.getD x undef]) w := by simp [results, h]
/-- is a word a header's? -/
def isHead (N : Nat) : Bool := rightB (kN N) (zN N) (tN N) && hdrI (kN N) (zN N) (tN N) == (N : Int)
def partK (N : Nat) : Int := if isHead N then kN N else 0
def partZ (N : Nat) : Int := if isHead N then zN N else 0
def partT (N : Nat) : Int := if isHead N then tN N else 0
end Go.Proofs.YtlakfnlkiebpdaaDoor
