/- Plain lemmas on integers of 63 bits (W: a whole number wrapped into 63 bits), with no program in them. Conditions: none beyond each lemma's own. -/
import Derived.RowKit
import Derived.Laws.BitsLemmas
namespace Go.Proofs.YtpoblealgooamaaGreatDoor
open Go Go.RowKit
def W (n : Int) : Int := (n + 4611686018427387904) % 9223372036854775808 - 4611686018427387904
theorem W_lo (n : Int) : -4611686018427387904 ≤ W n := by unfold W; omega
theorem W_hi (n : Int) : W n ≤ 4611686018427387903 := by unfold W; omega
theorem W_id {n : Int} (h0 : -4611686018427387904 ≤ n) (h1 : n ≤ 4611686018427387903) : W n = n := by unfold W; omega
theorem W_W (n : Int) : W (W n) = W n := W_id (W_lo n) (W_hi n)
theorem W_ex (n : Int) : ∃ k : Int, W n = n + 9223372036854775808 * k := ⟨-((n + 4611686018427387904) / 9223372036854775808), by unfold W; omega⟩
theorem W_of (n k : Int) : W (n + 9223372036854775808 * k) = W n := by unfold W; omega
theorem w64_ex (n : Int) : ∃ k : Int, wrap64 n = n + 9223372036854775808 * k := ⟨-(2 * ((n + 9223372036854775808) / 18446744073709551616)), by unfold wrap64; omega⟩
theorem W_wrap64 (n : Int) : W (wrap64 n) = W n := by obtain ⟨k, hk⟩ := w64_ex n; rw [hk, W_of]
theorem W_half (n : Int) : wrap64 (n * 2) / 2 = W n := by unfold wrap64 W; omega
theorem W_addl (a b : Int) : W (W a + b) = W (a + b) := by
  obtain ⟨k, hk⟩ := W_ex a
  rw [hk, show a + 9223372036854775808 * k + b = a + b + 9223372036854775808 * k from by omega, W_of]
theorem W_addr (a b : Int) : W (a + W b) = W (a + b) := by rw [Int.add_comm, W_addl, Int.add_comm]
theorem W_subl (a b : Int) : W (W a - b) = W (a - b) := by rw [Int.sub_eq_add_neg, W_addl, Int.sub_eq_add_neg]
theorem W_subr (a b : Int) : W (a - W b) = W (a - b) := by
  obtain ⟨k, hk⟩ := W_ex b
  rw [hk, show a - (b + 9223372036854775808 * k) = a - b + 9223372036854775808 * (-k) from by omega, W_of]
theorem W_mull (a b : Int) : W (W a * b) = W (a * b) := by
  obtain ⟨k, hk⟩ := W_ex a
  rw [hk, Int.add_mul, Int.mul_assoc, W_of]
theorem W_mulr (a b : Int) : W (a * W b) = W (a * b) := by rw [Int.mul_comm, W_mull, Int.mul_comm]
theorem W_neg (a : Int) : W (-W a) = W (-a) := by have := W_subr 0 a; simpa using this
/-- the reference's wrap, by one step of 2^63 -/
theorem W_down {n : Int} (h : 4611686018427387904 ≤ n) (h1 : n ≤ 9223372036854775807) : n - 4611686018427387904 - 4611686018427387904 = W n := by unfold W; omega
theorem W_up {n : Int} (h : n < -4611686018427387904) (h1 : -9223372036854775808 ≤ n) : n + 4611686018427387904 + 4611686018427387904 = W n := by unfold W; omega
def fitB (n : Int) : Bool := decide (-4611686018427387904 ≤ n ∧ n ≤ 4611686018427387903)
theorem fitB_iff (n : Int) : fitB n = true ↔ W n = n := by
  unfold fitB; rw [decide_eq_true_eq]
  constructor
  · intro h; exact W_id h.1 h.2
  · intro h; have := W_lo n; have := W_hi n; omega
theorem fitB_W (n : Int) : fitB (W n) = true := (fitB_iff _).2 (W_W n)
theorem fitB_eq (n : Int) : fitB n = (W n == n) := by
  rw [Bool.eq_iff_iff, fitB_iff]; simp
/-- the quotient, down -/
def fl (a b : Int) : Int := if a.tmod b ≠ 0 ∧ (a < 0 ↔ ¬ b < 0) then a.tdiv b - 1 else a.tdiv b
theorem tdiv_lo {a b : Int} (h0 : -4611686018427387904 ≤ a) (h1 : a ≤ 4611686018427387903) : -4611686018427387904 ≤ a.tdiv b ∧ a.tdiv b ≤ 4611686018427387904 := by
  have h : (a.tdiv b).natAbs ≤ a.natAbs := Int.natAbs_tdiv_le_natAbs a b
  omega
theorem tmod_eq (a b : Int) : a - b * a.tdiv b = a.tmod b := by have := Int.mul_tdiv_add_tmod a b; omega
theorem tmod_sign {a b : Int} (h : a.tmod b ≠ 0) : (a.tmod b < 0 ↔ a < 0) := by
  constructor
  · intro h1
    by_cases h2 : 0 ≤ a
    · have := Int.tmod_nonneg b h2; omega
    · omega
  · intro h1
    have h3 : (-a).tmod b = -(a.tmod b) := Int.neg_tmod a b
    have h4 := Int.tmod_nonneg b (show 0 ≤ -a by omega)
    omega
theorem fl_bd {a b : Int} (h0 : -4611686018427387904 ≤ a) (h1 : a ≤ 4611686018427387903) : -4611686018427387905 ≤ fl a b ∧ fl a b ≤ 4611686018427387904 := by
  have := tdiv_lo (b := b) h0 h1
  unfold fl; split <;> omega
def rest (a b : Int) : Int := a - b * fl a b
theorem rest_eq (a b : Int) : rest a b = if a.tmod b ≠ 0 ∧ (a < 0 ↔ ¬ b < 0) then a.tmod b + b else a.tmod b := by
  unfold rest fl
  have := tmod_eq a b
  split
  · rw [Int.mul_sub]; omega
  · omega
theorem tmod_lt {a b : Int} (hb : b ≠ 0) : -(b.natAbs : Int) < a.tmod b ∧ a.tmod b < b.natAbs := by
  have h : (a.tmod b).natAbs = a.natAbs % b.natAbs := Int.natAbs_tmod a b
  have h2 : a.natAbs % b.natAbs < b.natAbs := Nat.mod_lt _ (by omega)
  omega
theorem rest_pos {a b : Int} (hb : 0 < b) : 0 ≤ rest a b ∧ rest a b < b := by
  have h := tmod_lt (a := a) (b := b) (by omega)
  rw [rest_eq]
  by_cases hz : a.tmod b = 0
  · simp [hz]; omega
  · have hs := tmod_sign hz
    by_cases ha : a < 0
    · rw [if_pos ⟨hz, by omega⟩]; omega
    · rw [if_neg (by rintro ⟨_, h⟩; omega)]; omega
theorem rest_neg {a b : Int} (hb : b < 0) : b < rest a b ∧ rest a b ≤ 0 := by
  have h := tmod_lt (a := a) (b := b) (by omega)
  rw [rest_eq]
  by_cases hz : a.tmod b = 0
  · simp [hz]; omega
  · have hs := tmod_sign hz
    by_cases ha : a < 0
    · rw [if_neg (by rintro ⟨_, h⟩; omega)]; omega
    · rw [if_pos ⟨hz, by omega⟩]; omega
/-- the reference's rest and quotient are the same -/
theorem down_q (a b : Int) : (if a.tmod b ≠ 0 ∧ (a.tmod b < 0 ↔ ¬ b < 0) then a.tdiv b - 1 else a.tdiv b) = fl a b := by
  unfold fl
  by_cases hz : a.tmod b = 0
  · simp [hz]
  · have hs := tmod_sign hz
    by_cases hc : (a < 0 ↔ ¬ b < 0)
    · rw [if_pos ⟨hz, by omega⟩, if_pos ⟨hz, hc⟩]
    · rw [if_neg (by rintro ⟨_, h⟩; omega), if_neg (by rintro ⟨_, h⟩; omega)]
/-- 'y & 1' at any int64 -/
theorem i64_and1 (n : Int) : bits .and .i64 n 1 = n % 2 := by
  have h1 : (BitVec.ofInt 64 1).toNat = 2 ^ 1 - 1 := by decide
  have key : (BitVec.ofInt 64 n &&& BitVec.ofInt 64 1).toNat = (n % ((2 ^ 64 : Nat) : Int)).toNat % 2 ^ 1 := by
    rw [BitVec.toNat_and, BitVec.toNat_ofInt, h1, Nat.and_two_pow_sub_one_eq_mod]
  show IntKind.i64.wrap ((BitVec.ofInt 64 n &&& BitVec.ofInt 64 1).toNat : Nat) = n % 2
  rw [key, IntKind.wrap_i64]
  omega
theorem two_pow_pos (k : Nat) : (0 : Int) < 2 ^ k := Int.pow_pos (by decide)
theorem mod_twice (y m : Int) (hm : 0 < m) : y % (m * 2) = y % m + m * (y / m % 2) := by
  have h1 : y = m * (y / m) + y % m := (Int.mul_ediv_add_emod y m).symm
  have h2 : y / m = 2 * (y / m / 2) + y / m % 2 := (Int.mul_ediv_add_emod (y / m) 2).symm
  have r0 := Int.emod_nonneg y (show m ≠ 0 by omega)
  have r1 := Int.emod_lt_of_pos y hm
  generalize y / m / 2 = c at h2
  have h3 : y = (y % m + m * (y / m % 2)) + m * 2 * c := by
    have e : m * (y / m) = m * (y / m % 2) + m * 2 * c := by
      rw [Int.mul_assoc, ← Int.mul_add, Int.add_comm, ← h2]
    omega
  have h4 : y / m % 2 = 0 ∨ y / m % 2 = 1 := by omega
  have h5 : y % (m * 2) = (y % m + m * (y / m % 2)) % (m * 2) := by
    have := congrArg (· % (m * 2)) h3
    simpa [Int.add_mul_emod_self_left] using this
  rw [h5]
  rcases h4 with h4 | h4
  · rw [h4]; exact Int.emod_eq_of_lt (by omega) (by omega)
  · rw [h4]; exact Int.emod_eq_of_lt (by omega) (by omega)
/-- the low k + 1 bits out of the low k bits and the next one -/
theorem mod_pow_succ (y : Int) (k : Nat) : y % 2 ^ (k + 1) = y % 2 ^ k + 2 ^ k * (y / 2 ^ k % 2) := by
  rw [Int.pow_succ]; exact mod_twice y _ (two_pow_pos k)
theorem mul_step (a b : Int) (k : Nat) (h : (bits BinOp.and IntKind.i64 (W b / 2 ^ k) 1 == 1) = true) : W (W (a * (W b % 2 ^ k)) + W (a * 2 ^ k)) = W (a * (W b % 2 ^ (k + 1))) := by
  rw [i64_and1] at h
  have h1 : W b / 2 ^ k % 2 = 1 := by simpa using h
  rw [mod_pow_succ, h1, W_addl, W_addr, ← Int.mul_add, Int.mul_one]
theorem mul_stay (a b : Int) (k : Nat) (h : (bits BinOp.and IntKind.i64 (W b / 2 ^ k) 1 == 1) = false) : W (a * (W b % 2 ^ k)) = W (a * (W b % 2 ^ (k + 1))) := by
  rw [i64_and1] at h
  have h1 : W b / 2 ^ k % 2 = 0 := by
    have : ¬ (W b / 2 ^ k % 2 = 1) := by simpa using h
    omega
  rw [mod_pow_succ, h1, Int.mul_zero, Int.add_zero]
theorem mul_twice (a : Int) (k : Nat) : W (W (a * 2 ^ k) + W (a * 2 ^ k)) = W (a * 2 ^ (k + 1)) := by
  rw [W_addl, W_addr, Int.pow_succ, ← Int.mul_assoc]
  congr 1
  omega
theorem mul_end (a b : Int) : W (a * (W b % 2 ^ 63)) = W (a * b) := by
  have h : W b % 2 ^ 63 = b + 9223372036854775808 * (W b % 2 ^ 63 / 9223372036854775808 - (b - W b % 2 ^ 63) / 9223372036854775808) := by
    obtain ⟨k, hk⟩ := W_ex b
    rw [hk]; omega
  rw [← W_mulr a (W b % 2 ^ 63), ← W_mulr a b, h, W_of]
end Go.Proofs.YtpoblealgooamaaGreatDoor
