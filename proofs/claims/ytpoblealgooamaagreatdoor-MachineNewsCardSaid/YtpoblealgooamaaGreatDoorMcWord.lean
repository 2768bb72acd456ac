/- How the check and the document write the integer 0. Conditions: none. -/
import Derived.Test.YtpoblealgooamaaGreatDoorMcRefN
namespace Go.Proofs.YtpoblealgooamaaGreatDoor
open Go Go.RowKit Go.Proofs.YtpoblealgooamaaGreatDoor.IsaL
set_option maxRecDepth 100000 in
theorem law_word_one (o : Value) (w : World) : Calls Tryz.prog 61 #[.int .u64 1, o] w fun e w' => e = .returned (.tuple #[.slice (some ⟨w.heap.size, 0, none⟩) 2 2, o]) ∧ w' = w.alloc (.cells #[.int .u64 1, .int .u64 0] 31) := by
  go_enter Tryz.func61, Tryz.ntmps61
  go_wp2_with fail
  go_ret2
  exact ⟨rfl, rfl⟩
set_option maxRecDepth 100000 in
theorem ref_word_zero (o : Value) (w : World) : Calls Tryz.prog 107 #[.agg #[.bool false, .int .i64 0, .int .i64 0], o] w fun e w' => e = .returned (.slice (some ⟨w.heap.size + 1, 0, none⟩) 2 2) ∧ w' = (w.alloc (.cells #[.bool false, .int .i64 0, .int .i64 0] 59)).alloc (.cells #[.int .u64 1, .int .u64 0] 31) := by
  go_enter Tryz.func107, Tryz.ntmps107
  go_wp2_with fail
  go_ret
  exact ⟨rfl, rfl⟩
end Go.Proofs.YtpoblealgooamaaGreatDoor
