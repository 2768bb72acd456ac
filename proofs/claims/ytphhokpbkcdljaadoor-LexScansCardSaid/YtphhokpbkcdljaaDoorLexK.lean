/- Contracts of the document's Keys, Signs and WordKind. Conditions: texts within the reach. -/
import Derived.Below
import Derived.Test.YtphhokpbkcdljaaDoorLexV
namespace Go.Proofs.YtphhokpbkcdljaaDoor
open Go Go.RowKit
def strsV (ls : List (List UInt8)) : List Value := ls.map fun l => .string ⟨l.toArray⟩
theorem sv_new {w w1 : World} {t : TypeId} {N : Nat} {ls : List (List UInt8)} (hN : ls.length = N) (hf : N ≤ 1000) (h : w1.heap[w.heap.size]? = some (.cells (strsV ls).toArray t (0, 0))) : SV w1 (some ⟨w.heap.size, 0, none⟩) N ls :=
  ⟨hN, hf, fun j l hj => ⟨_, 0, rfl, (Array.getElem?_eq_some_iff.1 h).1, by
    simp only [World.cell?, h]
    simp [strsV, hj]⟩⟩
set_option maxRecDepth 100000 in
set_option maxHeartbeats 4000000 in
theorem ref_keys (w : World) : Calls Tryd.prog 64 #[] w fun e w' => e = .returned (.slice (some ⟨w.heap.size, 0, none⟩) 26 26) ∧ SV w' (some ⟨w.heap.size, 0, none⟩) 26 keysL ∧ Below w.heap.size w w' := by
  go_enter Tryd.func64, Tryd.ntmps64
  go_wp2
  go_ret
  refine ⟨rfl, sv_new (t := 9) rfl (by decide) ?_, ?_⟩
  · exact heap_alloc_new w _
  · exact (Below.refl _ w).alloc (Nat.le_refl _) _
set_option maxRecDepth 100000 in
set_option maxHeartbeats 4000000 in
theorem ref_signs (w : World) : Calls Tryd.prog 55 #[] w fun e w' => e = .returned (.slice (some ⟨w.heap.size, 0, none⟩) 22 22) ∧ SV w' (some ⟨w.heap.size, 0, none⟩) 22 signsL ∧ Below w.heap.size w w' := by
  go_enter Tryd.func55, Tryd.ntmps55
  go_wp2
  go_ret
  refine ⟨rfl, sv_new (t := 9) rfl (by decide) ?_, ?_⟩
  · exact heap_alloc_new w _
  · exact (Below.refl _ w).alloc (Nat.le_refl _) _
end Go.Proofs.YtphhokpbkcdljaaDoor
