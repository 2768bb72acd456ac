/- A measure. Conditions: none. -/
import Derived.Test.YtlakfnlkiebpdaaDoorPackAll
namespace Go.Proofs.YtlakfnlkiebpdaaDoor.NumL
open Go Go.RowKit
theorem meas_up {s : ByteArray} {k : Nat} (hlt : k < s.size) : s.size - (intOf (Value.int .i64 ((k : Int) + 1))).toNat < s.size - (intOf (Value.int .i64 (k : Int))).toNat := by
  simp [intOf]; omega
end Go.Proofs.YtlakfnlkiebpdaaDoor.NumL
