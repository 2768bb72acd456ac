/- The contract of the reference's Among: a number below another. Condition: that is at least 1. -/
import Derived.Test.YtpoblealgooamaaGreatDoorMemOne
namespace Go.Proofs.YtpoblealgooamaaGreatDoor
open Go Go.RowKit
end Go.Proofs.YtpoblealgooamaaGreatDoor
