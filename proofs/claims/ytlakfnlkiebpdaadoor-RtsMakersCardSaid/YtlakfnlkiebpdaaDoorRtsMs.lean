/- The contract of SameMakers: what Makers gives is the same each time. Conditions: none. -/
import Derived.Test.YtlakfnlkiebpdaaDoorRtsMr
namespace Go.Proofs.YtlakfnlkiebpdaaDoor
open Go Go.RowKit
/-- what a row of Makers says: its fields, and of which row of types its two slices are -/
def RowOf (U1 U2 U3 : Value) (i : Nat) (s : ByteArray) (tag : Int) (has : Bool) (vars : Int) (a t : Ty) (ua ut : Value) : Prop :=
  (∃ rest, (mkUp U1 U2 U3 6).drop (i * 12) = mkC s tag has vars a t ua ut ++ rest) ∧ ((ua = nilS ∧ a.l = []) ∨ (ua = U2 ∧ a.l = cellT.l)) ∧ ((ut = nilS ∧ t.l = []) ∨ (ut = U1 ∧ t.l = listT.l) ∨ (ut = U3 ∧ t.l = listT.l))
theorem row_of : ∀ i : Nat, i < 10 → ∃ (s : ByteArray) (tag : Int) (has : Bool) (vars : Int) (a t : Ty), ∀ U1 U2 U3, ∃ ua ut, RowOf U1 U2 U3 i s tag has vars a t ua ut
  | 0, _ => ⟨⟨#[102, 97, 108, 115, 101]⟩, 0, false, 0, zeroT, boolT, fun U1 U2 U3 => ⟨nilS, nilS, ⟨_, rfl⟩, .inl ⟨rfl, rfl⟩, .inl ⟨rfl, rfl⟩⟩⟩
  | 1, _ => ⟨⟨#[116, 114, 117, 101]⟩, 1, false, 0, zeroT, boolT, fun U1 U2 U3 => ⟨nilS, nilS, ⟨_, rfl⟩, .inl ⟨rfl, rfl⟩, .inl ⟨rfl, rfl⟩⟩⟩
  | 2, _ => ⟨⟨#[110, 105, 108]⟩, 0, false, 1, zeroT, listT, fun U1 U2 U3 => ⟨nilS, U1, ⟨_, rfl⟩, .inl ⟨rfl, rfl⟩, .inr (.inl ⟨rfl, rfl⟩)⟩⟩
  | 3, _ => ⟨⟨#[58, 58]⟩, 1, true, 1, cellT, listT, fun U1 U2 U3 => ⟨U2, U3, ⟨_, rfl⟩, .inr ⟨rfl, rfl⟩, .inr (.inr ⟨rfl, rfl⟩)⟩⟩
  | 4, _ => ⟨exnN 0, 0, false, 0, zeroT, exnT, fun U1 U2 U3 => ⟨nilS, nilS, ⟨_, rfl⟩, .inl ⟨rfl, rfl⟩, .inl ⟨rfl, rfl⟩⟩⟩
  | 5, _ => ⟨exnN 1, 1, false, 0, zeroT, exnT, fun U1 U2 U3 => ⟨nilS, nilS, ⟨_, rfl⟩, .inl ⟨rfl, rfl⟩, .inl ⟨rfl, rfl⟩⟩⟩
  | 6, _ => ⟨exnN 2, 2, false, 0, zeroT, exnT, fun U1 U2 U3 => ⟨nilS, nilS, ⟨_, rfl⟩, .inl ⟨rfl, rfl⟩, .inl ⟨rfl, rfl⟩⟩⟩
  | 7, _ => ⟨exnN 3, 3, false, 0, zeroT, exnT, fun U1 U2 U3 => ⟨nilS, nilS, ⟨_, rfl⟩, .inl ⟨rfl, rfl⟩, .inl ⟨rfl, rfl⟩⟩⟩
  | 8, _ => ⟨exnN 4, 4, false, 0, zeroT, exnT, fun U1 U2 U3 => ⟨nilS, nilS, ⟨_, rfl⟩, .inl ⟨rfl, rfl⟩, .inl ⟨rfl, rfl⟩⟩⟩
  | 9, _ => ⟨exnN 5, 5, false, 0, zeroT, exnT, fun U1 U2 U3 => ⟨nilS, nilS, ⟨_, rfl⟩, .inl ⟨rfl, rfl⟩, .inl ⟨rfl, rfl⟩⟩⟩
  | i + 10, h => absurd h (by omega)
/-- what Makers gave lies here -/
structure Mq (w : World) (g : Nat) (i : Nat) (s : ByteArray) (tag : Int) (has : Bool) (vars : Int) (a t : Ty) (ua ut : Value) : Prop where
  c0 : w.cell? ⟨g, i * 12, none⟩ = some (.string s)
  c1 : w.cell? ⟨g, i * 12 + 1, none⟩ = some (.int .i64 tag)
  c2 : w.cell? ⟨g, i * 12 + 2, none⟩ = some (.bool has)
  c3 : w.cell? ⟨g, i * 12 + 3, none⟩ = some (.int .i64 vars)
  c4 : w.cell? ⟨g, i * 12 + 4, none⟩ = some (.int .i64 a.k)
  c5 : w.cell? ⟨g, i * 12 + 5, none⟩ = some (.int .i64 a.n)
  c6 : w.cell? ⟨g, i * 12 + 6, none⟩ = some (.string a.s)
  c7 : w.cell? ⟨g, i * 12 + 7, none⟩ = some ua
  c8 : w.cell? ⟨g, i * 12 + 8, none⟩ = some (.int .i64 t.k)
  c9 : w.cell? ⟨g, i * 12 + 9, none⟩ = some (.int .i64 t.n)
  c10 : w.cell? ⟨g, i * 12 + 10, none⟩ = some (.string t.s)
  c11 : w.cell? ⟨g, i * 12 + 11, none⟩ = some ut
theorem Mq.stay {w W : World} {g i : Nat} {s : ByteArray} {tag : Int} {has : Bool} {vars : Int} {a t : Ty} {ua ut : Value} (h : Mq w g i s tag has vars a t ua ut) (hb : Below w.heap.size w W) : Mq W g i s tag has vars a t ua ut :=
  ⟨below_cell hb h.c0, below_cell hb h.c1, below_cell hb h.c2, below_cell hb h.c3, below_cell hb h.c4, below_cell hb h.c5, below_cell hb h.c6, below_cell hb h.c7, below_cell hb h.c8, below_cell hb h.c9, below_cell hb h.c10, below_cell hb h.c11⟩
theorem mkd_form {w : World} {b : Nat} {v U1 U2 U3 : Value} (h : Mkd w b v U1 U2 U3 6) : ∃ g cap, v = .slice (some ⟨g, 0, none⟩) 10 cap ∧ 10 ≤ cap ∧ cap ≤ maxLen ∧ (∃ cs, w.heap[g]? = some (.cells cs 73 (0, 0)) ∧ 120 ≤ cs.size) ∧ ∀ j x, (mkUp U1 U2 U3 6)[j]? = some x → w.cell? ⟨g, j, none⟩ = some x := by
  rcases h.1.2 with ⟨_, h2⟩ | ⟨g, cap, cur, rfl, _, hg, h1, h2, h3, h4⟩
  · omega
  · refine ⟨g, cap, rfl, h1, h2, ⟨cur, hg, by omega⟩, fun j x hx => ?_⟩
    rw [blk_cellT hg]
    rw [← h4, List.getElem?_take] at hx
    split at hx
    · simpa using hx
    · cases hx
theorem mkd_row {w : World} {g i : Nat} {U1 U2 U3 : Value} {s : ByteArray} {tag : Int} {has : Bool} {vars : Int} {a t : Ty} {ua ut : Value}
    (hc : ∀ j x, (mkUp U1 U2 U3 6)[j]? = some x → w.cell? ⟨g, j, none⟩ = some x) (h : RowOf U1 U2 U3 i s tag has vars a t ua ut) : Mq w g i s tag has vars a t ua ut := by
  obtain ⟨⟨rest, hr⟩, _⟩ := h
  have hj : ∀ j x, (mkC s tag has vars a t ua ut)[j]? = some x → w.cell? ⟨g, i * 12 + j, none⟩ = some x := fun j x hx => by
    refine hc _ _ ?_
    rw [← List.getElem?_drop, hr, List.getElem?_append_left (by have := (List.getElem?_eq_some_iff.1 hx).1; exact this)]
    exact hx
  exact ⟨hj 0 _ rfl, hj 1 _ rfl, hj 2 _ rfl, hj 3 _ rfl, hj 4 _ rfl, hj 5 _ rfl, hj 6 _ rfl, hj 7 _ rfl, hj 8 _ rfl, hj 9 _ rfl, hj 10 _ rfl, hj 11 _ rfl⟩
theorem row_lists {w : World} {b : Nat} {v U1 U2 U3 : Value} (m : Mkd w b v U1 U2 U3 6) {i : Nat} {s : ByteArray} {tag : Int} {has : Bool} {vars : Int} {a t : Ty} {ua ut : Value} (h : RowOf U1 U2 U3 i s tag has vars a t ua ut) : Lv w b a.l ua ∧ Lv w b t.l ut := by
  obtain ⟨_, h1, h2⟩ := h
  obtain ⟨_, m1, m2, m3⟩ := m
  constructor
  · rcases h1 with ⟨rfl, h⟩ | ⟨rfl, h⟩
    · rw [h]; exact Lv.nil _ _
    · rw [h]; exact m2
  · rcases h2 with ⟨rfl, h⟩ | ⟨rfl, h⟩ | ⟨rfl, h⟩
    · rw [h]; exact Lv.nil _ _
    · rw [h]; exact m1
    · rw [h]; exact m3
end Go.Proofs.YtlakfnlkiebpdaaDoor
