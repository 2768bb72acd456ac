/- The contract of Copy: a memory of its own, row by row. Conditions: the memory lies as MemV says. -/
import Derived.Test.YtlakfnlkiebpdaaDoorMemClone
import Derived.Deep.RegionHeld3
import Derived.Deep.DrawnRows
namespace Go.Proofs.YtlakfnlkiebpdaaDoor
open Go Go.RowKit
attribute [local go_sem ↓] Go.wp_at_zero Go.wp_at_succ
theorem u64s_one (l : List Nat) : ∀ v ∈ u64s l, v.oneCell' = true := by
  intro v hv
  unfold u64s at hv
  obtain ⟨n, _, rfl⟩ := List.mem_map.1 hv
  rfl
theorem blk_set {W : World} {B : Nat} {cs : Array Value} {t : TypeId} (h : W.heap[B]? = some (.cells cs t (0, 0))) (j : Nat) (v : Value) : (W.setCell ⟨B, j, none⟩ v).heap[B]? = some (.cells (cs.setIfInBounds j v) t (0, 0)) := by
  obtain ⟨hlt, hk⟩ := Array.getElem?_eq_some_iff.1 h
  show (W.heap.modify B _)[B]? = _
  rw [Array.getElem?_eq_getElem (by rw [Array.size_modify]; exact hlt), Array.getElem_modify_self, hk]
  rfl
theorem blk_cell {W : World} {B : Nat} {cs : Array Value} {t : TypeId} (h : W.heap[B]? = some (.cells cs t (0, 0))) (j : Nat) : W.cell? ⟨B, j, none⟩ = cs[j]? := by
  simp [World.cell?, h]
theorem blk_free {W : World} {B : Nat} {cs : Array Value} {t : TypeId} (h : W.heap[B]? = some (.cells cs t (0, 0))) (j : Nat) : W.frozen? ⟨B, j, none⟩ = false := by
  simp [World.frozen?, h]
/-- a copy of a memory whose first k halves are laid anew -/
structure CP (w : World) (W h : Nat) (R : Nat → Value) (L : Nat → List Nat) (k : Nat) (V : Nat → Value) (wr : World) : Prop where
  blk : wr.heap[w.heap.size]? = some (.cells #[.int .i64 W, .int .i64 h, V 0, V 1, V 2, V 3] 80 (0, 0))
  base : Below w.heap.size w wr
  old : ∀ r, 2 * k ≤ r → V r = R r
  own : ∀ r, r < 2 * k → wr.ownsRow (w.heap.size + 1) 33 1 (V r) (L r).length (u64s (L r))
  sep : ∀ r s, r < 2 * k → s < 2 * k → r ≠ s → ∀ g, (V r).ownBlock = some g → (V s).ownBlock ≠ some g
theorem own_mono {w : World} {B B' n : Nat} {e : TypeId} {v : Value} {xs : List Value} (h : w.ownsRow B e 1 v n xs) (hb : B' ≤ B) : w.ownsRow B' e 1 v n xs := by
  refine ⟨h.1, ?_⟩
  rcases h.2 with h0 | ⟨g, cap, cur, h1, h2, rest⟩
  · exact .inl h0
  · exact .inr ⟨g, cap, cur, h1, Nat.le_trans hb h2, rest⟩
theorem own_below {w w' : World} {B n : Nat} {e : TypeId} {v : Value} {xs : List Value} (h : w.ownsRow B e 1 v n xs) (hb : Below w.heap.size w w') : w'.ownsRow B e 1 v n xs :=
  (Fr.of_below (O := fun _ => False) hb).own h (fun _ _ => id)
theorem own_set {w : World} {B n c j : Nat} {e : TypeId} {v u : Value} {xs : List Value} (h : w.ownsRow B e 1 v n xs) (hc : c < B) : (w.setCell ⟨c, j, none⟩ u).ownsRow B e 1 v n xs :=
  ((Fr.refl (· = c) w).setCell (p := ⟨c, j, none⟩) (.inl rfl) u).own h (fun g hg e => by have := (h.lt g hg).1; omega)
theorem cp_step {w wr wa wb : World} {W h k : Nat} {R V : Nat → Value} {L : Nat → List Nat} (c : CP w W h R L k V wr) (hk : k < 2) (hb1 : Below wr.heap.size wr wa) (hb2 : Below wa.heap.size wa wb) {va vb : Value} {Ba Bb : Nat} (hBa : wr.heap.size ≤ Ba) (hBb : wa.heap.size ≤ Bb)
    (oa : wa.ownsRow Ba 33 1 va (L (2 * k)).length (u64s (L (2 * k)))) (ob : wb.ownsRow Bb 33 1 vb (L (2 * k + 1)).length (u64s (L (2 * k + 1)))) :
    CP w W h R L (k + 1) (upd (upd V (2 * k) va) (2 * k + 1) vb) ((wb.setCell ⟨w.heap.size, 2 + 2 * k, none⟩ va).setCell ⟨w.heap.size, 3 + 2 * k, none⟩ vb) := by
  have hlt : w.heap.size < wr.heap.size := (Array.getElem?_eq_some_iff.1 c.blk).1
  have hba := hb1.trans (hb2.mono hb1.size)
  have hblk : wb.heap[w.heap.size]? = _ := (hba.block _ hlt).trans c.blk
  refine ⟨?_, ((c.base.trans (hba.mono c.base.size)).setCell (p := ⟨w.heap.size, _, none⟩) (Nat.le_refl _) _).setCell (p := ⟨w.heap.size, _, none⟩) (Nat.le_refl _) _, fun r hr => ?_, fun r hr => ?_, fun r s hr hs hne g hg hg2 => ?_⟩
  · have h2 := blk_set (blk_set hblk (2 + 2 * k) va) (3 + 2 * k) vb
    have hk' : k = 0 ∨ k = 1 := by omega
    rcases hk' with rfl | rfl
    · exact h2
    · exact h2
  · rw [upd_other _ _ (by omega), upd_other _ _ (by omega)]; exact c.old r (by omega)
  · refine own_set (own_set ?_ (Nat.lt_succ_self _)) (Nat.lt_succ_self _)
    by_cases e : r = 2 * k + 1
    · subst e; rw [upd_same]; exact own_mono ob (by have := hb1.size; omega)
    · rw [upd_other _ _ e]
      by_cases e2 : r = 2 * k
      · subst e2; rw [upd_same]; exact own_below (own_mono oa (by omega)) hb2
      · rw [upd_other _ _ e2]; exact own_below (c.own r (by omega)) hba
  · have ho : ∀ r, r < 2 * k → ∀ g, (V r).ownBlock = some g → g < wr.heap.size := fun r hr g hg => ((c.own r hr).lt g hg).2
    have h1 := hb1.size
    by_cases e : r = 2 * k + 1
    · subst e
      rw [upd_same] at hg
      have l1 := (ob.lt g hg).1
      rw [upd_other _ _ (fun q => hne q.symm)] at hg2
      by_cases e2 : s = 2 * k
      · subst e2; rw [upd_same] at hg2
        have l2 := (oa.lt g hg2).2; omega
      · rw [upd_other _ _ e2] at hg2
        have := ho s (by omega) g hg2; omega
    · rw [upd_other _ _ e] at hg
      by_cases e2 : r = 2 * k
      · subst e2; rw [upd_same] at hg
        have l1 := oa.lt g hg
        by_cases e3 : s = 2 * k + 1
        · subst e3; rw [upd_same] at hg2
          have l2 := (ob.lt g hg2).1; omega
        · rw [upd_other _ _ e3, upd_other _ _ (fun q => hne q.symm)] at hg2
          have := ho s (by omega) g hg2; omega
      · rw [upd_other _ _ e2] at hg
        have l1 := ho r (by omega) g hg
        by_cases e3 : s = 2 * k + 1
        · subst e3; rw [upd_same] at hg2
          have l2 := (ob.lt g hg2).1; omega
        · rw [upd_other _ _ e3] at hg2
          by_cases e4 : s = 2 * k
          · subst e4; rw [upd_same] at hg2
            have l2 := (oa.lt g hg2).1; omega
          · rw [upd_other _ _ e4] at hg2
            exact c.sep r s (by omega) (by omega) hne g hg hg2
/-- a copy whose halves are both laid anew is a memory of its own -/
theorem CP.mem {w wr : World} {W h : Nat} {R V : Nat → Value} {L : Nat → List Nat} (c : CP w W h R L 2 V wr) : MemV wr w.heap.size W h V L := by
  refine ⟨blk_cell c.blk 0, blk_cell c.blk 1, fun r hr => ?_, blk_free c.blk, fun r hr => own_mono (c.own r (by omega)) (Nat.zero_le _), fun r s hr hs => c.sep r s (by omega) (by omega), fun r hr hg => ?_⟩
  · rw [blk_cell c.blk]
    have : r = 0 ∨ r = 1 ∨ r = 2 ∨ r = 3 := by omega
    rcases this with rfl | rfl | rfl | rfl <;> rfl
  · have := ((c.own r (by omega)).lt _ hg).1; omega
theorem CP.sub {w wr : World} {W h : Nat} {R V : Nat → Value} {L : Nat → List Nat} (c : CP w W h R L 2 V wr) : ∀ i, Own w.heap.size V i → w.heap.size ≤ i := by
  rintro i (rfl | ⟨r, hr, hg⟩)
  · exact Nat.le_refl _
  · have := ((c.own r (by omega)).lt _ hg).1; omega
def cellAt (W1 : World) (c j : Nat) : Value := (W1.cell? ⟨c, j, none⟩).getD undef
/-- nothing but the block c, whose six cells lie there, has turned -/
structure KN (w1 : World) (c : Nat) (W1 : World) : Prop where
  fr : Fr (· = c) w1 W1
  blk : ∃ cs, W1.heap[c]? = some (.cells cs 80 (0, 0)) ∧ cs.size = 6
theorem KN.below {w1 W1 W2 : World} {c : Nat} (k : KN w1 c W1) (h : Below W1.heap.size W1 W2) : KN w1 c W2 := by
  obtain ⟨cs, h1, h2⟩ := k.blk
  exact ⟨k.fr.trans (Fr.of_below (O := fun _ => False) h) (fun _ => False.elim), cs, (h.block c (Array.getElem?_eq_some_iff.1 h1).1).trans h1, h2⟩
theorem KN.drew {w1 W1 : World} {c : Nat} (k : KN w1 c W1) : KN w1 c W1.drew := k.below (Below.refl _ W1).drew
theorem KN.set {w1 W1 : World} {c : Nat} (k : KN w1 c W1) (j : Nat) (v : Value) : KN w1 c (W1.setCell ⟨c, j, none⟩ v) := by
  obtain ⟨cs, h1, h2⟩ := k.blk
  exact ⟨k.fr.setCell (p := ⟨c, j, none⟩) (.inl rfl) v, _, blk_set h1 j v, by simpa using h2⟩
theorem kn_s {w1 W1 : World} {g c j : Nat} {x y : Value} (hne : g ≠ c) (hj : j < 5) (hg0 : w1.cell? ⟨g, 0, none⟩ = some x) (hg1 : w1.cell? ⟨g, 1, none⟩ = some y) (h : KN w1 c W1) :
    W1.cell? ⟨g, 0, none⟩ = some x ∧ W1.cell? ⟨g, 1, none⟩ = some y ∧ W1.cell? ⟨c, j, none⟩ = some (cellAt W1 c j) ∧ W1.cell? ⟨c, j + 1, none⟩ = some (cellAt W1 c (j + 1)) ∧ W1.frozen? ⟨c, j, none⟩ = false ∧ W1.frozen? ⟨c, j + 1, none⟩ = false ∧ KN w1 c W1 := by
  obtain ⟨cs, h1, h2⟩ := h.blk
  have k : ∀ i, i < 6 → W1.cell? ⟨c, i, none⟩ = some (cellAt W1 c i) := fun i hi => by
    unfold cellAt
    rw [blk_cell h1, Array.getElem?_eq_getElem (by omega)]; rfl
  exact ⟨h.fr.cell_some hg0 hne, h.fr.cell_some hg1 hne, k _ (by omega), k _ (by omega), blk_free h1 _, blk_free h1 _, h⟩
theorem kn_of {p q r s t u : Prop} {a b : World} {c : Nat} (h : p ∧ q ∧ r ∧ s ∧ t ∧ u ∧ KN a c b) : KN a c b := h.2.2.2.2.2.2
section
variable {w : World} {b W h : Nat} {R : Nat → Value} {L : Nat → List Nat}
end
end Go.Proofs.YtlakfnlkiebpdaaDoor
