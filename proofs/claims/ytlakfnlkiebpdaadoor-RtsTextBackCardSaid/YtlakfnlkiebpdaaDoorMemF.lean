/- A memory as it lies in the program's heap; frames: what turns is its own alone. Conditions: none. -/
import Derived.Test.YtlakfnlkiebpdaaDoorProg
import Derived.Test.YtlakfnlkiebpdaaDoorMemM
import Derived.WalkKit
import Derived.Below
import Derived.Laws.OwnMore
import Derived.Laws.AppendOwn
import Derived.Maps.AppendAt
import Derived.OwnWalk
import Derived.RangeFuncBox
import Derived.Deep.RegionHeld3
import Derived.Deep.QuietTactic
namespace Go.Proofs.YtlakfnlkiebpdaaDoor
open Go Go.RowKit
def u64s (l : List Nat) : List Value := l.map fun (n : Nat) => Value.int .u64 (n : Int)
theorem u64s_length (l : List Nat) : (u64s l).length = l.length := by simp [u64s]
theorem u64s_append (a b : List Nat) : u64s (a ++ b) = u64s a ++ u64s b := by simp [u64s]
theorem u64s_set (l : List Nat) (j z : Nat) : u64s (l.set j z) = (u64s l).set j (.int .u64 (z : Int)) := by simp [u64s, List.map_set]
theorem u64s_get (l : List Nat) (j : Nat) (h : j < l.length) : (u64s l)[j]? = some (.int .u64 ((l.getD j 0 : Nat) : Int)) := by
  simp [u64s, List.getD, h]
/-- nothing but the own blocks has turned -/
structure Fr (O : Nat → Prop) (w w' : World) : Prop where
  os : w'.os = w.os
  tape : w'.tape = w.tape
  output : w'.output = w.output
  size : w.heap.size ≤ w'.heap.size
  block : ∀ i, i < w.heap.size → ¬ O i → w'.heap[i]? = w.heap[i]?
section
variable {O P : Nat → Prop} {w w1 w2 : World}
theorem Fr.refl (O : Nat → Prop) (w : World) : Fr O w w := ⟨rfl, rfl, rfl, Nat.le_refl _, fun _ _ _ => rfl⟩
theorem Fr.trans (h : Fr O w w1) (h2 : Fr P w1 w2) (hs : ∀ i, P i → O i ∨ w.heap.size ≤ i) : Fr O w w2 :=
  ⟨h2.os.trans h.os, h2.tape.trans h.tape, h2.output.trans h.output, Nat.le_trans h.size h2.size, fun i hi hn => (h2.block i (Nat.lt_of_lt_of_le hi h.size) (fun hp => by
    rcases hs i hp with a | a
    · exact hn a
    · omega)).trans (h.block i hi hn)⟩
theorem Fr.mono (h : Fr O w w1) (hs : ∀ i, O i → P i ∨ w.heap.size ≤ i) : Fr P w w1 :=
  ⟨h.os, h.tape, h.output, h.size, fun i hi hn => h.block i hi (fun ho => by
    rcases hs i ho with a | a
    · exact hn a
    · omega)⟩
theorem Fr.drewN (h : Fr O w w1) (n : Nat) : Fr O w (w1.drewN n) := ⟨h.os, h.tape, h.output, h.size, h.block⟩
theorem Fr.drew (h : Fr O w w1) : Fr O w w1.drew := ⟨h.os, h.tape, h.output, h.size, h.block⟩
theorem Fr.alloc (h : Fr O w w1) (o : Obj) : Fr O w (w1.alloc o) :=
  ⟨h.os, h.tape, h.output, Nat.le_trans h.size (by simp), fun i hi hn => (Below.heap_alloc w1 o i (Nat.lt_of_lt_of_le hi h.size)).trans (h.block i hi hn)⟩
theorem Fr.setCell (h : Fr O w w1) {p : Addr} (hp : O p.block ∨ w.heap.size ≤ p.block) (v : Value) : Fr O w (w1.setCell p v) :=
  ⟨h.os, h.tape, h.output, by simpa [World.setCell] using h.size, fun i hi hn => (heap_setCell_other w1 p i v (fun e => by
    rcases hp with a | a
    · exact hn (e ▸ a)
    · omega)).trans (h.block i hi hn)⟩
theorem Fr.grown (h : Fr O w w1) {row : Option Nat} (hg : w1.grownBy w2 row) (hr : ∀ k, row = some k → O k ∨ w.heap.size ≤ k) : Fr O w w2 :=
  ⟨hg.os.trans h.os, hg.tape.trans h.tape, hg.output.trans h.output, Nat.le_trans h.size hg.size, fun i hi hn => (hg.block i (Nat.lt_of_lt_of_le hi h.size) (fun e => by
    rcases hr i e.symm with a | a
    · exact hn a
    · omega)).trans (h.block i hi hn)⟩
theorem Fr.of_below (h : Below w.heap.size w w1) : Fr O w w1 := ⟨h.os, h.tape, h.output, h.size, fun i hi _ => h.block i hi⟩
theorem Fr.below (h : Fr O w w1) {B : Nat} (hB : B ≤ w.heap.size) (ho : ∀ i, O i → B ≤ i) : Below B w w1 :=
  ⟨h.os, h.tape, h.output, h.size, fun i hi => h.block i (Nat.lt_of_lt_of_le hi hB) (fun hn => absurd (ho i hn) (by omega))⟩
theorem Fr.cell (h : Fr O w w1) {p : Addr} (hp : p.block < w.heap.size) (hn : ¬ O p.block) : w1.cell? p = w.cell? p := World.cell?_of_block (h.block p.block hp hn)
theorem Fr.frozen (h : Fr O w w1) {p : Addr} (hp : p.block < w.heap.size) (hn : ¬ O p.block) : w1.frozen? p = w.frozen? p := World.frozen?_of_block (h.block p.block hp hn)
theorem Fr.cell_some (h : Fr O w w1) {p : Addr} {v : Value} (hc : w.cell? p = some v) (hn : ¬ O p.block) : w1.cell? p = some v := (h.cell (World.block_lt_of_cell? w _ hc) hn).trans hc
theorem Fr.own (h : Fr O w w1) {B : Nat} {e : TypeId} {v : Value} {n : Nat} {xs : List Value} (hr : w.ownsRow B e 1 v n xs) (hn : ∀ g, v.ownBlock = some g → ¬ O g) : w1.ownsRow B e 1 v n xs := by
  refine ⟨hr.1, ?_⟩
  rcases hr.2 with h0 | ⟨g, cap, cur, rfl, hb, hg, rest⟩
  · exact .inl h0
  · exact .inr ⟨g, cap, cur, rfl, hb, (h.block g (Array.getElem?_eq_some_iff.1 hg).1 (hn g rfl)).trans hg, rest⟩
end
/-- the blocks of a memory at b with rows R -/
def Own (b : Nat) (R : Nat → Value) : Nat → Prop := fun i => i = b ∨ ∃ r, r < 4 ∧ (R r).ownBlock = some i
/-- a memory at b: words, half, and its four rows: cells and marks of each half -/
structure MemV (w : World) (b W h : Nat) (R : Nat → Value) (L : Nat → List Nat) : Prop where
  c0 : w.cell? ⟨b, 0, none⟩ = some (.int .i64 W)
  c1 : w.cell? ⟨b, 1, none⟩ = some (.int .i64 h)
  cr : ∀ r, r < 4 → w.cell? ⟨b, 2 + r, none⟩ = some (R r)
  fz : ∀ j, w.frozen? ⟨b, j, none⟩ = false
  own : ∀ r, r < 4 → w.ownsRow 0 33 1 (R r) (L r).length (u64s (L r))
  sep : ∀ r s, r < 4 → s < 4 → r ≠ s → ∀ g, (R r).ownBlock = some g → (R s).ownBlock ≠ some g
  far : ∀ r, r < 4 → (R r).ownBlock ≠ some b
section
variable {w w1 : World} {b W h : Nat} {R : Nat → Value} {L : Nat → List Nat}
theorem MemV.lt (m : MemV w b W h R L) : b < w.heap.size := World.block_lt_of_cell? w _ m.c0
theorem MemV.own_lt (m : MemV w b W h R L) : ∀ i, Own b R i → i < w.heap.size := by
  rintro i (rfl | ⟨r, hr, hg⟩)
  · exact m.lt
  · exact ((m.own r hr).lt i hg).2
theorem MemV.shape (m : MemV w b W h R L) {r : Nat} (hr : r < 4) : ∃ a cap, R r = .slice a (L r).length cap ∧ (L r).length ≤ cap ∧ cap ≤ 9223372036854775807 := by
  rcases (m.own r hr).2 with ⟨hv, h0⟩ | ⟨g, cap, cur, hv, _, _, h1, h2, _⟩
  · exact ⟨none, 0, by rw [hv, h0], by omega, by omega⟩
  · exact ⟨_, cap, hv, h1, by simpa [maxLen] using h2⟩
theorem MemV.some_row (m : MemV w b W h R L) {r j : Nat} (hr : r < 4) (hj : j < (L r).length) : ∃ g cap, R r = .slice (some ⟨g, 0, none⟩) (L r).length cap ∧ (L r).length ≤ cap ∧ cap ≤ 9223372036854775807 := by
  rcases (m.own r hr).2 with ⟨_, h0⟩ | ⟨g, cap, cur, hv, _, _, h1, h2, _⟩
  · omega
  · exact ⟨g, cap, hv, h1, by simpa [maxLen] using h2⟩
theorem MemV.row_cell (m : MemV w b W h R L) {r j g n cap : Nat} (hr : r < 4) (hj : j < (L r).length) (hv : R r = .slice (some ⟨g, 0, none⟩) n cap) : w.cell? ⟨g, j, none⟩ = some (.int .u64 (((L r).getD j 0 : Nat) : Int)) ∧ w.frozen? ⟨g, j, none⟩ = false := by
  have ho := m.own r hr
  obtain ⟨a, c, hs, _⟩ := m.shape hr
  rw [hv] at hs
  have hn : n = (L r).length := by injection hs
  rw [hv, hn] at ho
  exact ⟨(ho.cellAt j (by omega)).trans (u64s_get _ _ hj), ho.frozenAt j⟩
/-- it lies on where nothing of its own has turned -/
theorem MemV.kept (m : MemV w b W h R L) {O : Nat → Prop} (hf : Fr O w w1) (hn : ∀ i, Own b R i → ¬ O i) : MemV w1 b W h R L :=
  ⟨hf.cell_some m.c0 (hn b (.inl rfl)), hf.cell_some m.c1 (hn b (.inl rfl)), fun r hr => hf.cell_some (m.cr r hr) (hn b (.inl rfl)), fun j => (hf.frozen m.lt (hn b (.inl rfl))).trans (m.fz j),
    fun r hr => hf.own (m.own r hr) (fun g hg => hn g (.inr ⟨r, hr, hg⟩)), m.sep, m.far⟩
theorem MemV.below (m : MemV w b W h R L) (hb : Below w.heap.size w w1) : MemV w1 b W h R L := m.kept (Fr.of_below (O := fun _ => False) hb) (fun _ _ => id)
theorem MemV.drewN (m : MemV w b W h R L) (n : Nat) : MemV (w.drewN n) b W h R L := m.kept ((Fr.refl (fun _ => False) w).drewN n) (fun _ _ => id)
theorem MemV.alloc (m : MemV w b W h R L) (o : Obj) : MemV (w.alloc o) b W h R L := m.kept ((Fr.refl (fun _ => False) w).alloc o) (fun _ _ => id)
def upd {α : Type} (f : Nat → α) (r : Nat) (v : α) : Nat → α := fun s => if s = r then v else f s
theorem upd_same {α : Type} (f : Nat → α) (r : Nat) (v : α) : upd f r v r = v := by simp [upd]
theorem upd_other {α : Type} (f : Nat → α) {r s : Nat} (v : α) (h : s ≠ r) : upd f r v s = f s := by simp [upd, h]
/-- the half is stored -/
theorem MemV.set_half (m : MemV w b W h R L) (h' : Nat) : MemV (w.setCell ⟨b, 1, none⟩ (.int .i64 h')) b W h' R L := by
  have hc : ∀ (o : Nat) (v : Value), o ≠ 1 → w.cell? ⟨b, o, none⟩ = some v → (w.setCell ⟨b, 1, none⟩ (.int .i64 h')).cell? ⟨b, o, none⟩ = some v := fun o v ho hv => (World.cell?_setCell_other _ _ _ _ (by intro q; injection q with _ q2; exact ho q2.symm)).trans hv
  have hf : Fr (· = b) w (w.setCell ⟨b, 1, none⟩ (.int .i64 h')) := (Fr.refl (· = b) w).setCell (p := ⟨b, 1, none⟩) (.inl rfl) _
  exact ⟨hc 0 _ (by decide) m.c0, World.cell?_setCell_same _ _ _ m.c1, fun r hr => hc _ _ (by omega) (m.cr r hr), fun j => (World.frozen?_setCell _ _ _ _).trans (m.fz j),
    fun r hr => hf.own (m.own r hr) (fun g hg e => m.far r hr (e ▸ hg)), m.sep, m.far⟩
/-- a row's value is stored, the new row lying where the old one lay, or anew -/
theorem MemV.set_row (m : MemV w b W h R L) {r : Nat} (hr : r < 4) {v : Value} {l : List Nat} (hv : w.ownsRow 0 33 1 v l.length (u64s l)) (hs : ∀ g, v.ownBlock = some g → g ≠ b ∧ ∀ s, s < 4 → s ≠ r → (R s).ownBlock ≠ some g) :
    MemV (w.setCell ⟨b, 2 + r, none⟩ v) b W h (upd R r v) (upd L r l) := by
  have hc : ∀ (o : Nat) (u : Value), o ≠ 2 + r → w.cell? ⟨b, o, none⟩ = some u → (w.setCell ⟨b, 2 + r, none⟩ v).cell? ⟨b, o, none⟩ = some u := fun o u ho hu => (World.cell?_setCell_other _ _ _ _ (by intro q; injection q with _ q2; exact ho q2.symm)).trans hu
  have hf : Fr (· = b) w (w.setCell ⟨b, 2 + r, none⟩ v) := (Fr.refl (· = b) w).setCell (p := ⟨b, 2 + r, none⟩) (.inl rfl) _
  refine ⟨hc 0 _ (by omega) m.c0, hc 1 _ (by omega) m.c1, fun s hs4 => ?_, fun j => (World.frozen?_setCell _ _ _ _).trans (m.fz j), fun s hs4 => ?_, fun s t hs4 ht4 hne g => ?_, fun s hs4 => ?_⟩
  · by_cases e : s = r
    · subst e; rw [upd_same]; exact World.cell?_setCell_same _ _ _ (m.cr s hs4)
    · rw [upd_other _ _ e]; exact hc _ _ (by omega) (m.cr s hs4)
  · by_cases e : s = r
    · subst e; rw [upd_same, upd_same]; exact hf.own hv (fun g hg q => (hs g hg).1 q)
    · rw [upd_other _ _ e, upd_other _ _ e]; exact hf.own (m.own s hs4) (fun g hg q => m.far s hs4 (q ▸ hg))
  · by_cases e : s = r
    · subst e
      rw [upd_same, upd_other _ _ (fun q => hne q.symm)]
      exact fun hg => (hs g hg).2 t ht4 (fun q => hne q.symm)
    · rw [upd_other _ _ e]
      by_cases e2 : t = r
      · subst e2
        rw [upd_same]
        exact fun hg hg2 => (hs g hg2).2 s hs4 e hg
      · rw [upd_other _ _ e2]
        exact m.sep s t hs4 ht4 hne g
  · by_cases e : s = r
    · subst e; rw [upd_same]; exact fun hg => (hs b hg).1 rfl
    · rw [upd_other _ _ e]; exact m.far s hs4
/-- one cell of a row is stored -/
theorem MemV.set_cell (m : MemV w b W h R L) {r j g n cap z : Nat} (hr : r < 4) (hv : R r = .slice (some ⟨g, 0, none⟩) n cap) :
    MemV (w.setCell ⟨g, j, none⟩ (.int .u64 (z : Int))) b W h R (upd L r ((L r).set j z)) := by
  have hgb : g ≠ b := fun e => m.far r hr (by rw [hv, e]; rfl)
  have hf : Fr (· = g) w (w.setCell ⟨g, j, none⟩ (.int .u64 (z : Int))) := (Fr.refl (· = g) w).setCell (p := ⟨g, j, none⟩) (.inl rfl) _
  have hc : ∀ (o : Nat) (u : Value), w.cell? ⟨b, o, none⟩ = some u → (w.setCell ⟨g, j, none⟩ (.int .u64 (z : Int))).cell? ⟨b, o, none⟩ = some u := fun o u hu => hf.cell_some hu (fun e => hgb e.symm)
  refine ⟨hc _ _ m.c0, hc _ _ m.c1, fun s hs => hc _ _ (m.cr s hs), fun q => (World.frozen?_setCell _ _ _ _).trans (m.fz q), fun s hs => ?_, m.sep, m.far⟩
  by_cases e : s = r
  · subst e
    rw [upd_same, List.length_set, u64s_set]
    have ho := m.own s hs
    obtain ⟨a, c, hsh, _⟩ := m.shape hs
    rw [hv] at hsh
    have hn : n = (L s).length := by injection hsh
    rw [hv, hn] at ho ⊢
    exact (ho.stored j _).1
  · rw [upd_other _ _ e]
    exact hf.own (m.own s hs) (fun k hk q => m.sep r s hr hs (fun x => e x.symm) g (by rw [hv]; rfl) (q ▸ hk))
end
/-- from a world w0 in which O were the own blocks a world w has come, with a memory at b of such rows -/
def MS (w0 : World) (O : Nat → Prop) (w : World) (b W h : Nat) (L : Nat → List Nat) : Prop :=
  ∃ R, MemV w b W h R L ∧ (∀ i, Own b R i → O i ∨ w0.heap.size ≤ i) ∧ Fr O w0 w
section
variable {w0 w w1 : World} {O : Nat → Prop} {b W h W' h' : Nat} {R : Nat → Value} {L L' : Nat → List Nat}
theorem MS.refl (m : MemV w b W h R L) : MS w (Own b R) w b W h L := ⟨R, m, fun _ h => .inl h, Fr.refl _ _⟩
theorem MS.step (m : MS w0 O w b W h L) (f : ∀ R, MemV w b W h R L → MS w (Own b R) w1 b W' h' L') : MS w0 O w1 b W' h' L' := by
  obtain ⟨R, m1, h1, h2⟩ := m
  obtain ⟨R', m2, h3, h4⟩ := f R m1
  refine ⟨R', m2, fun i hi => ?_, h2.trans h4 h1⟩
  rcases h3 i hi with a | a
  · exact h1 i a
  · exact .inr (Nat.le_trans h2.size a)
theorem MS.drewN (m : MS w0 O w b W h L) (n : Nat) : MS w0 O (w.drewN n) b W h L := by
  obtain ⟨R, m1, h1, h2⟩ := m
  exact ⟨R, m1.drewN n, h1, h2.drewN n⟩
theorem MS.below (m : MS w0 O w b W h L) (hb : Below w.heap.size w w1) : MS w0 O w1 b W h L := by
  obtain ⟨R, m1, h1, h2⟩ := m
  exact ⟨R, m1.below hb, h1, h2.trans (Fr.of_below (O := fun _ => False) hb) (fun _ => False.elim)⟩
end
end Go.Proofs.YtlakfnlkiebpdaaDoor
