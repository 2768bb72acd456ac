/- Contracts of the leaf functions of package num and of the reference: each only computes. Conditions: the arguments are of their Go kinds. -/
import Derived.WalkKit
import Derived.Outline
import Derived.Lib.Hide
import Derived.IntWalk
import Derived.WalkLawsBesides
import Derived.WalkSpells
import Derived.Test.YtlakfnlkiebpdaaDoorMath
import Derived.Test.YtlakfnlkiebpdaaDoorProg
namespace Go.Proofs.YtlakfnlkiebpdaaDoor
open Go Go.RowKit
theorem ret_int {k : IntKind} {a b : Int} (h : a = b) : Ending.returned (.int k a) = .returned (.int k b) := by rw [h]
theorem ret_bool {a b : Bool} (h : a = b) : Ending.returned (.bool a) = .returned (.bool b) := by rw [h]

set_option maxHeartbeats 400000 in
theorem refwrap_any (n : Int) (w : World) (h0 : -9223372036854775808 ≤ n) (h1 : n ≤ 9223372036854775807) :
    Calls Tryd.prog 88 #[.int .i64 n] w fun e w' => e = .returned (.int .i64 (W n)) ∧ w = w' := by
  go_enter Tryd.func88, Tryd.ntmps88
  go_wp2
  · go_ret
    exact ⟨ret_int (W_down (by assumption) h1), rfl⟩
  · go_ret
    exact ⟨ret_int (W_up (by assumption) h0), rfl⟩
  · go_ret
    exact ⟨ret_int (W_id (by assumption) (by omega)).symm, rfl⟩
end Go.Proofs.YtlakfnlkiebpdaaDoor
