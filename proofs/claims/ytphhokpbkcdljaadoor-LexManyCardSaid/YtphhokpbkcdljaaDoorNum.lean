/- Contracts of the leaf functions of package num and of the reference: each only computes. Conditions: the arguments are of their Go kinds. -/
import Derived.WalkKit
import Derived.Outline
import Derived.Lib.Hide
import Derived.IntWalk
import Derived.WalkLawsBesides
import Derived.WalkSpells
import Derived.Test.YtphhokpbkcdljaaDoorMath
import Derived.Test.YtphhokpbkcdljaaDoorProg
namespace Go.Proofs.YtphhokpbkcdljaaDoor
open Go Go.RowKit
theorem ret_int {k : IntKind} {a b : Int} (h : a = b) : Ending.returned (.int k a) = .returned (.int k b) := by rw [h]
theorem ret_bool {a b : Bool} (h : a = b) : Ending.returned (.bool a) = .returned (.bool b) := by rw [h]

end Go.Proofs.YtphhokpbkcdljaaDoor
