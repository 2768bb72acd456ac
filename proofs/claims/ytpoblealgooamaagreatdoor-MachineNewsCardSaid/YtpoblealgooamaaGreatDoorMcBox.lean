/- A machine's own cells as a function of their places. Conditions: none. -/
import Derived.Test.YtpoblealgooamaaGreatDoorMemOne
namespace Go.Proofs.YtpoblealgooamaaGreatDoor
open Go Go.RowKit
/-- the cells of a machine: memory, stack's words, 16 registers, 1024 globals, used, code, value, frames, slots, handlers -/
def mcR (n : Nat) (F : Nat → Value) : Array Value := ((List.range n).map F).toArray
def Bx (w : World) (g : Nat) (F : Nat → Value) : Prop := w.heap[g]? = some (.cells (mcR 1048 F) 55 (0, 0))
def mup (F : Nat → Value) (j : Nat) (v : Value) : Nat → Value := fun k => if k = j then v else F k
theorem mup_same (F : Nat → Value) (j : Nat) (v : Value) : mup F j v j = v := if_pos rfl
theorem mup_other {F : Nat → Value} {j k : Nat} {v : Value} (h : k ≠ j) : mup F j v k = F k := if_neg h
theorem mcR_get {n : Nat} (F : Nat → Value) {j : Nat} (hj : j < n) : (mcR n F)[j]? = some (F j) := by
  unfold mcR
  rw [List.getElem?_toArray, List.getElem?_map, List.getElem?_range hj]
  rfl
theorem mcR_set (n : Nat) (F : Nat → Value) (j : Nat) (v : Value) : (mcR n F).setIfInBounds j v = mcR n (mup F j v) := by
  unfold mcR
  rw [List.setIfInBounds_toArray]
  congr 1
  apply List.ext_getElem?
  intro i
  rw [List.getElem?_set, List.getElem?_map, List.getElem?_map, List.length_map, List.length_range]
  by_cases hi : i < n
  · rw [List.getElem?_range hi]
    by_cases hij : j = i
    · subst hij
      rw [if_pos rfl, if_pos hi]
      simp [mup]
    · rw [if_neg hij]
      simp [mup, Ne.symm hij]
  · rw [List.getElem?_eq_none (by simp; omega)]
    by_cases hij : j = i
    · subst hij
      rw [if_pos rfl, if_neg hi]; rfl
    · rw [if_neg hij]; rfl
theorem mcR_blk {n : Nat} {W : World} {B : Nat} {F : Nat → Value} {T : TypeId} (h : W.heap[B]? = some (.cells (mcR n F) T (0, 0))) (j : Nat) (v : Value) : (W.setCell ⟨B, j, none⟩ v).heap[B]? = some (.cells (mcR n (mup F j v)) T (0, 0)) := by
  show (W.heap.modify B _)[B]? = _
  rw [Array.getElem?_modify, if_pos rfl, h]
  show some (Obj.cells ((mcR n F).setIfInBounds j v) T (0, 0)) = _
  rw [mcR_set]
theorem mc_cell {W : World} {B : Nat} {cs : Array Value} {t : TypeId} (h : W.heap[B]? = some (.cells cs t (0, 0))) (j : Nat) : W.cell? ⟨B, j, none⟩ = cs[j]? := by simp [World.cell?, h]
theorem mc_froz {W : World} {B : Nat} {cs : Array Value} {t : TypeId} (h : W.heap[B]? = some (.cells cs t (0, 0))) (j : Nat) : W.frozen? ⟨B, j, none⟩ = false := by simp [World.frozen?, h]
section
variable {w w1 : World} {g : Nat} {F : Nat → Value}
theorem Bx.lt (h : Bx w g F) : g < w.heap.size := (Array.getElem?_eq_some_iff.1 h).1
theorem Bx.cell (h : Bx w g F) {j : Nat} (hj : j < 1048) : w.cell? ⟨g, j, none⟩ = some (F j) := by
  have h2 : w.cell? ⟨g, j, none⟩ = (mcR 1048 F)[j]? := by simp [World.cell?, show w.heap[g]? = _ from h]
  rw [h2, mcR_get F hj]
theorem Bx.frozen (h : Bx w g F) (j : Nat) : w.frozen? ⟨g, j, none⟩ = false := by simp [World.frozen?, show w.heap[g]? = _ from h]
theorem Bx.set (h : Bx w g F) (j : Nat) (v : Value) : Bx (w.setCell ⟨g, j, none⟩ v) g (mup F j v) := mcR_blk h j v
theorem Bx.below (h : Bx w g F) (hb : Below w.heap.size w w1) : Bx w1 g F := (hb.block g h.lt).trans h
theorem Bx.fr {O : Nat → Prop} (h : Bx w g F) (hf : Fr O w w1) (hO : ¬ O g) : Bx w1 g F := (hf.block g h.lt hO).trans h
end
end Go.Proofs.YtpoblealgooamaaGreatDoor
