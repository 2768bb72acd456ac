/- Contracts of after and of the objects told one by one. Conditions: the memory lies as Mem says. -/
import Derived.RangeFuncBox
import Derived.RangeFuncLeaves
import Derived.RangeFuncNested
import Derived.Shelf.Abstract
import Derived.OwnWalkIn
import Derived.TacticsInMore
import Derived.LoopNIn
import Derived.LoopIn
import Derived.Test.YtlakfnlkiebpdaaDoorMemKnA
namespace Go.Proofs.YtlakfnlkiebpdaaDoor
open Go Go.RowKit Go.Shelf
theorem max_cast (f B : Nat) : Value.int .i64 (max (f : Int) ((B : Int) * 64)) = .int .i64 ((max f (B * 64) : Nat) : Int) := by congr 1; omega
theorem bit_len {M : List Nat} {c : Nat} (h : bitAt M c = true) : c < M.length * 64 := by
  by_cases q : c / 64 < M.length
  · omega
  · unfold bitAt at h; rw [decide_eq_false q] at h; cases h
/-- no cell from f on below c is marked -/
def Clear (M : List Nat) (f c : Nat) : Prop := ∀ d, f ≤ d → d < c → bitAt M d = false
theorem Clear.succ {M : List Nat} {f c : Nat} (h : Clear M f c) (hb : bitAt M c = false) : Clear M f (c + 1) := fun d h1 h2 => by
  by_cases e : d = c
  · rw [e]; exact hb
  · exact h d h1 (by omega)
/-- the first marked cell from f on, as an answer -/
def After (M : List Nat) (h W f : Nat) (e : Ending) : Prop := (∃ c, f ≤ c ∧ c < M.length * 64 ∧ Clear M f c ∧ bitAt M c = true ∧ e = .returned (.tuple #[.int .i64 (adr h W c), .bool true])) ∨ ((∀ c, f ≤ c → bitAt M c = false) ∧ e = .returned (.tuple #[.int .i64 (adr h W (-1)), .bool false]))
section
variable {w : World} {b W h : Nat} {R : Nat → Value} {L : Nat → List Nat}
end
end Go.Proofs.YtlakfnlkiebpdaaDoor
