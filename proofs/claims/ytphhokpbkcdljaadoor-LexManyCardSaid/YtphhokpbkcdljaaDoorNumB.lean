/- Contracts of division, words of integers and words of addresses in package num and in the reference: each only computes. Conditions: the arguments are of their Go kinds. -/
import Derived.Test.YtphhokpbkcdljaaDoorNum
namespace Go.Proofs.YtphhokpbkcdljaaDoor
open Go Go.RowKit
theorem ret2 {k : IntKind} {a b : Int} {c : Value} (h : a = b) : Ending.returned (.tuple #[.int k a, c]) = .returned (.tuple #[.int k b, c]) := by rw [h]
theorem ret22 {k : IntKind} {a b c d : Int} (h : a = b) (h2 : c = d) : Ending.returned (.tuple #[.int k a, .int k c]) = .returned (.tuple #[.int k b, .int k d]) := by rw [h, h2]
theorem fl_zero {a b : Int} (h : a.tmod b = 0) : a.tdiv b = fl a b := by unfold fl; simp [h]
theorem fl_pos {a b : Int} (h : a.tmod b ≠ 0) (h2 : a < 0 ↔ ¬ b < 0) : a.tdiv b - 1 = fl a b := by unfold fl; rw [if_pos ⟨h, h2⟩]
theorem fl_neg {a b : Int} (h2 : ¬ (a < 0 ↔ ¬ b < 0)) : a.tdiv b = fl a b := by unfold fl; rw [if_neg (fun x => h2 x.2)]
/-- b * (the quotient, down) leaves no int64 where b is not 0 -/
theorem bfl_bd {a b : Int} (h0 : -4611686018427387904 ≤ a) (h1 : a ≤ 4611686018427387903) (hb : b ≠ 0) (g0 : -4611686018427387904 ≤ b) (g1 : b ≤ 4611686018427387903) : -9223372036854775808 ≤ b * fl a b ∧ b * fl a b ≤ 9223372036854775807 := by
  have e : b * fl a b = a - rest a b := by unfold rest; omega
  rw [e]
  rcases Int.lt_or_gt_of_ne hb with h | h
  · have := rest_neg (a := a) h; omega
  · have := rest_pos (a := a) h; omega
/-- what Div answers -/
def divQ (a b : Int) : Int := if W b = 0 then 0 else W (fl (W a) (W b))
def divE (b : Int) : Int := if W b = 0 then 10 else 0
def modR (a b : Int) : Int := if W b = 0 then 0 else rest (W a) (W b)
theorem divQ_zero {a b : Int} (h : W b = 0) : divQ a b = 0 := by unfold divQ; rw [if_pos h]
theorem divQ_some {a b : Int} (h : W b ≠ 0) : divQ a b = W (fl (W a) (W b)) := by unfold divQ; rw [if_neg h]
theorem modR_zero {a b : Int} (h : W b = 0) : modR a b = 0 := by unfold modR; rw [if_pos h]
theorem modR_some {a b : Int} (h : W b ≠ 0) : modR a b = rest (W a) (W b) := by unfold modR; rw [if_neg h]
theorem divE_zero {b : Int} (h : W b = 0) : divE b = 10 := by unfold divE; rw [if_pos h]
theorem divE_some {b : Int} (h : W b ≠ 0) : divE b = 0 := by unfold divE; rw [if_neg h]
theorem sgn_mod {a b : Int} (hm : a.tmod b ≠ 0) : (a - b * a.tdiv b < 0 ↔ a < 0) := by rw [tmod_eq]; exact tmod_sign hm
end Go.Proofs.YtphhokpbkcdljaaDoor
