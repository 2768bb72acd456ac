/- Types as trees in memory; the contracts of those that make one. Conditions: none. -/
import Derived.Deep.RegionHeld3
import Derived.Test.YtlakfnlkiebpdaaDoorRtsTwo
namespace Go.Proofs.YtlakfnlkiebpdaaDoor
open Go Go.RowKit
inductive Ty where
  | mk (k n : Int) (s : ByteArray) (l : List Ty)
def Ty.k : Ty → Int | .mk k _ _ _ => k
def Ty.n : Ty → Int | .mk _ n _ _ => n
def Ty.s : Ty → ByteArray | .mk _ _ s _ => s
def Ty.l : Ty → List Ty | .mk _ _ _ l => l
def tyC (t : Ty) (u : Value) : List Value := [.int .i64 t.k, .int .i64 t.n, .string t.s, u]
def tyA (t : Ty) (u : Value) : Value := .agg #[.int .i64 t.k, .int .i64 t.n, .string t.s, u]
/-- a row of types, as a value; its blocks lie from b on -/
inductive HasL (w : World) (b : Nat) : List Ty → Value → Prop
  | nil : HasL w b [] (.slice none 0 0)
  | row (l : List Ty) (g cap : Nat) (us : Nat → Value) (hb : b ≤ g) (hl : 0 < l.length) (hc : l.length ≤ cap) (hm : cap ≤ 1000000)
      (h0 : ∀ i t, l[i]? = some t → w.cell? ⟨g, i * 4, none⟩ = some (.int .i64 t.k))
      (h1 : ∀ i t, l[i]? = some t → w.cell? ⟨g, i * 4 + 1, none⟩ = some (.int .i64 t.n))
      (h2 : ∀ i t, l[i]? = some t → w.cell? ⟨g, i * 4 + 2, none⟩ = some (.string t.s))
      (h3 : ∀ i t, l[i]? = some t → w.cell? ⟨g, i * 4 + 3, none⟩ = some (us i))
      (hs : ∀ i t, l[i]? = some t → HasL w b t.l (us i)) : HasL w b l (.slice (some ⟨g, 0, none⟩) l.length cap)
/-- its memory is own -/
def OwnU (w : World) (b : Nat) (u : Value) : Prop := u = .slice none 0 0 ∨ ∃ g n cap cs, u = .slice (some ⟨g, 0, none⟩) n cap ∧ b ≤ g ∧ n ≤ cap ∧ cap ≤ 1000000 ∧ w.heap[g]? = some (.cells cs 61 (0, 0)) ∧ n * 4 ≤ cs.size
theorem cell_lt {w : World} {g j : Nat} {v : Value} (h : w.cell? ⟨g, j, none⟩ = some v) : g < w.heap.size := by
  refine Decidable.byContradiction fun q => ?_
  have : w.heap[g]? = none := Array.getElem?_eq_none (by omega)
  simp [World.cell?, this] at h
/-- from b on, what is there stays -/
def From (b : Nat) (w w' : World) : Prop := ∀ k, b ≤ k → k < w.heap.size → w'.heap[k]? = w.heap[k]?
theorem From.cell {b : Nat} {w w' : World} (h : From b w w') {g j : Nat} {v : Value} (hg : b ≤ g) (hc : w.cell? ⟨g, j, none⟩ = some v) : w'.cell? ⟨g, j, none⟩ = some v :=
  (World.cell?_of_block (w := w) (a := ⟨g, j, none⟩) (h g hg (cell_lt hc))).trans hc
theorem HasL.kept {w w' : World} {b : Nat} {l : List Ty} {u : Value} (h : HasL w b l u) (hb : From b w w') : HasL w' b l u := by
  induction h with
  | nil => exact .nil
  | row l g cap us hg hl hc hm h0 h1 h2 h3 _ ih =>
    exact .row l g cap us hg hl hc hm (fun i t q => hb.cell hg (h0 i t q)) (fun i t q => hb.cell hg (h1 i t q)) (fun i t q => hb.cell hg (h2 i t q)) (fun i t q => hb.cell hg (h3 i t q)) ih
theorem OwnU.kept {w w' : World} {b : Nat} {u : Value} (h : OwnU w b u) (hb : From b w w') : OwnU w' b u := by
  rcases h with h | ⟨g, n, cap, cs, h1, hg, h2, h3, h4, h5⟩
  · exact .inl h
  · exact .inr ⟨g, n, cap, cs, h1, hg, h2, h3, (hb g hg (Array.getElem?_eq_some_iff.1 h4).1).trans h4, h5⟩
theorem HasL.mono {w : World} {b b' : Nat} {l : List Ty} {u : Value} (h : HasL w b l u) (hb : b' ≤ b) : HasL w b' l u := by
  induction h with
  | nil => exact .nil
  | row l g cap us hg hl hc hm h0 h1 h2 h3 _ ih => exact .row l g cap us (by omega) hl hc hm h0 h1 h2 h3 ih
theorem OwnU.mono {w : World} {b b' : Nat} {u : Value} (h : OwnU w b u) (hb : b' ≤ b) : OwnU w b' u := by
  rcases h with h | ⟨g, n, cap, cs, h1, hg, h2⟩
  · exact .inl h
  · exact .inr ⟨g, n, cap, cs, h1, by omega, h2⟩
theorem From.of_below {b : Nat} {w w' : World} (h : Below w.heap.size w w') : From b w w' := fun k _ hk => h.block k hk
theorem From.set {b B j : Nat} {w w' : World} {v : Value} (h : From b w w') (hB : B < b) : From b w (w'.setCell ⟨B, j, none⟩ v) := fun k hk hl => by
  rw [← h k hk hl]
  show (w'.heap.modify B _)[k]? = _
  rw [Array.getElem?_modify, if_neg (by omega)]
/-- a row of types, with memory of its own -/
def Lv (w : World) (b : Nat) (l : List Ty) (u : Value) : Prop := HasL w b l u ∧ OwnU w b u
theorem Lv.kept {w w' : World} {b : Nat} {l : List Ty} {u : Value} (h : Lv w b l u) (hb : From b w w') : Lv w' b l u := ⟨h.1.kept hb, h.2.kept hb⟩
theorem Lv.stay {w w' : World} {b : Nat} {l : List Ty} {u : Value} (h : Lv w b l u) (hb : Below w.heap.size w w') : Lv w' b l u := h.kept (From.of_below hb)
theorem Lv.mono {w : World} {b b' : Nat} {l : List Ty} {u : Value} (h : Lv w b l u) (hb : b' ≤ b) : Lv w b' l u := ⟨h.1.mono hb, h.2.mono hb⟩
theorem Lv.nil (w : World) (b : Nat) : Lv w b [] (.slice none 0 0) := ⟨.nil, .inl rfl⟩
theorem blk_cellT {W : World} {B : Nat} {cs : Array Value} {t : TypeId} (h : W.heap[B]? = some (.cells cs t (0, 0))) (j : Nat) : W.cell? ⟨B, j, none⟩ = cs[j]? := by simp [World.cell?, h]
/-- a new row of one type -/
theorem Lv.one {w : World} {b : Nat} {t : Ty} {u : Value} (h : Lv w b t.l u) (hb0 : b ≤ w.heap.size) : Lv (w.alloc (.cells #[.int .i64 t.k, .int .i64 t.n, .string t.s, u] 61)) b [t] (.slice (some ⟨w.heap.size, 0, none⟩) 1 1) := by
  have hn := heap_alloc_new w (.cells #[.int .i64 t.k, .int .i64 t.n, .string t.s, u] 61)
  have hb := below_one w (.cells #[.int .i64 t.k, .int .i64 t.n, .string t.s, u] 61)
  have hi : ∀ (i : Nat) (x : Ty), [t][i]? = some x → i = 0 ∧ x = t := fun i x q => by
    cases i with
    | zero => simp at q; exact ⟨rfl, q.symm⟩
    | succ i => simp at q
  refine ⟨.row [t] w.heap.size 1 (fun _ => u) hb0 (by simp) (by simp) (by omega) ?_ ?_ ?_ ?_ ?_, .inr ⟨_, _, _, _, rfl, hb0, by omega, by omega, hn, by simp⟩⟩ <;> (intro i x q; obtain ⟨rfl, rfl⟩ := hi i x q)
  · rw [blk_cellT hn]; rfl
  · rw [blk_cellT hn]; rfl
  · rw [blk_cellT hn]; rfl
  · rw [blk_cellT hn]; rfl
  · exact h.1.kept (From.of_below hb)
/-- a new row of two types -/
theorem Lv.two {w : World} {b : Nat} {t t' : Ty} {u u' : Value} (h : Lv w b t.l u) (h' : Lv w b t'.l u') (hb0 : b ≤ w.heap.size) : Lv (w.alloc (.cells #[.int .i64 t.k, .int .i64 t.n, .string t.s, u, .int .i64 t'.k, .int .i64 t'.n, .string t'.s, u'] 61)) b [t, t'] (.slice (some ⟨w.heap.size, 0, none⟩) 2 2) := by
  have hn := heap_alloc_new w (.cells #[.int .i64 t.k, .int .i64 t.n, .string t.s, u, .int .i64 t'.k, .int .i64 t'.n, .string t'.s, u'] 61)
  have hb := below_one w (.cells #[.int .i64 t.k, .int .i64 t.n, .string t.s, u, .int .i64 t'.k, .int .i64 t'.n, .string t'.s, u'] 61)
  have hi : ∀ (i : Nat) (x : Ty), [t, t'][i]? = some x → (i = 0 ∧ x = t) ∨ (i = 1 ∧ x = t') := fun i x q => by
    match i with
    | 0 => simp at q; exact .inl ⟨rfl, q.symm⟩
    | 1 => simp at q; exact .inr ⟨rfl, q.symm⟩
    | i + 2 => simp at q
  refine ⟨.row [t, t'] w.heap.size 2 (fun i => if i = 0 then u else u') hb0 (by simp) (by simp) (by omega) ?_ ?_ ?_ ?_ ?_, .inr ⟨_, _, _, _, rfl, hb0, by omega, by omega, hn, by simp⟩⟩ <;> (intro i x q; rcases hi i x q with ⟨rfl, rfl⟩ | ⟨rfl, rfl⟩)
  · rw [blk_cellT hn]; rfl
  · rw [blk_cellT hn]; rfl
  · rw [blk_cellT hn]; rfl
  · rw [blk_cellT hn]; rfl
  · rw [blk_cellT hn]; rfl
  · rw [blk_cellT hn]; rfl
  · rw [blk_cellT hn]; rfl
  · rw [blk_cellT hn]; rfl
  · exact h.1.kept (From.of_below hb)
  · exact h'.1.kept (From.of_below hb)
theorem box_stayT {w w1 : World} {o : Obj} (hb : Below (w.alloc o).heap.size (w.alloc o) w1) : w1.heap[w.heap.size]? = some o :=
  (hb.block _ (by rw [World.size_alloc]; omega)).trans (heap_alloc_new w o)
def elemT : Ty := .mk 1 0 ⟨#[]⟩ []
def listT : Ty := .mk 2 9 ⟨#[108, 105, 115, 116]⟩ [elemT]
def cellT : Ty := .mk 2 6 ⟨#[42]⟩ [elemT, listT]
theorem ty_set {W0 : World} {B : Nat} {T : TypeId} {x0 x1 x2 x3 : Value} (h : W0.heap[B]? = some (.cells #[x0, x1, x2, x3] T (0, 0))) (y0 y1 y2 y3 : Value) :
    ((((W0.setCell ⟨B, 0, none⟩ y0).setCell ⟨B, 1, none⟩ y1).setCell ⟨B, 2, none⟩ y2).setCell ⟨B, 3, none⟩ y3).heap[B]? = some (.cells #[y0, y1, y2, y3] T (0, 0)) := by
  have := blk_set (blk_set (blk_set (blk_set h 0 y0) 1 y1) 2 y2) 3 y3
  simpa using this
theorem ty_below {w W0 : World} {B b : Nat} (h : Below b w W0) (hB : b ≤ B) (y0 y1 y2 y3 : Value) :
    Below b w ((((W0.setCell ⟨B, 0, none⟩ y0).setCell ⟨B, 1, none⟩ y1).setCell ⟨B, 2, none⟩ y2).setCell ⟨B, 3, none⟩ y3) :=
  (((h.setCell (p := ⟨B, 0, none⟩) hB _).setCell (p := ⟨B, 1, none⟩) hB _).setCell (p := ⟨B, 2, none⟩) hB _).setCell (p := ⟨B, 3, none⟩) hB _
theorem Lv.four {w : World} {b B : Nat} {l : List Ty} {u : Value} (h : Lv w b l u) (hB : B < b) (y0 y1 y2 y3 : Value) :
    Lv ((((w.setCell ⟨B, 0, none⟩ y0).setCell ⟨B, 1, none⟩ y1).setCell ⟨B, 2, none⟩ y2).setCell ⟨B, 3, none⟩ y3) b l u :=
  h.kept (((((From.of_below (Below.refl _ w)).set hB (j := 0) (v := y0)).set hB (j := 1) (v := y1)).set hB (j := 2) (v := y2)).set hB (j := 3) (v := y3))
set_option maxRecDepth 100000 in
set_option maxHeartbeats 8000000 in
theorem element_any (w : World) : Calls Tryd.prog 99 #[] w fun e w' => e = .returned (.agg #[.int .i64 1, .int .i64 0, .string ⟨#[]⟩, .slice none 0 0]) ∧ Below w.heap.size w w' := by
  go_enter Tryd.func99, Tryd.ntmps99
  go_wp2_with fail
  have hb1 := heap_alloc_new w (.cells #[.int .i64 1, .int .i64 0, .string ⟨#[]⟩, .slice none 0 0] 61)
  have hb2 := below_one w (.cells #[.int .i64 1, .int .i64 0, .string ⟨#[]⟩, .slice none 0 0] 61)
  have f0 := blk_cellT hb1 0
  have f1 := blk_cellT hb1 1
  have f2 := blk_cellT hb1 2
  have f3 := blk_cellT hb1 3
  exact bodyPost_ret (v := .agg #[.int .i64 1, .int .i64 0, .string ⟨#[]⟩, .slice none 0 0]) (by simp [results, Tryd.results99, go_sem, f0, f1, f2, f3]) rfl ⟨rfl, hb2⟩
set_option maxRecDepth 100000 in
set_option maxHeartbeats 8000000 in
theorem con_any (s : ByteArray) (n : Int) (u : Value) (hu : ∃ p a b, u = .slice p a b) (w : World) : Calls Tryd.prog 40 #[.string s, .int .i64 n, u] w fun e w' => e = .returned (.agg #[.int .i64 2, .int .i64 n, .string s, u]) ∧ Below w.heap.size w w' := by
  obtain ⟨p, a, b, rfl⟩ := hu
  go_enter Tryd.func40, Tryd.ntmps40
  go_wp2_with fail
  have hb1 := heap_alloc_new w (.cells #[.int .i64 2, .int .i64 n, .string s, .slice p a b] 61)
  have hb2 := below_one w (.cells #[.int .i64 2, .int .i64 n, .string s, .slice p a b] 61)
  have f0 := blk_cellT hb1 0
  have f1 := blk_cellT hb1 1
  have f2 := blk_cellT hb1 2
  have f3 := blk_cellT hb1 3
  exact bodyPost_ret (v := .agg #[.int .i64 2, .int .i64 n, .string s, .slice p a b]) (by simp [results, Tryd.results40, go_sem, f0, f1, f2, f3]) rfl ⟨rfl, hb2⟩
set_option maxRecDepth 100000 in
set_option maxHeartbeats 8000000 in
theorem listof_any (w : World) : Calls Tryd.prog 74 #[] w fun e w' => (∃ u, e = .returned (tyA listT u) ∧ Lv w' w.heap.size listT.l u) ∧ Below w.heap.size w w' := by
  have HBX := Lib.hid (below_one w (.cells #[.int .i64 0, .int .i64 0, .string ⟨#[]⟩, .slice none 0 0] 61))
  go_enter Tryd.func74, Tryd.ntmps74
  go_wp2_with fail
  refine (element_any _).mono ?_
  rintro e w1 ⟨rfl, hb1⟩
  have hbx := box_stayT hb1
  have hbb := HBX.out.trans (hb1.mono HBX.out.size)
  have HC := Lib.hid (And.intro hbx hbb)
  have hl := Lv.one (w := w1) (b := w1.heap.size) (t := elemT) (Lv.nil w1 _) (Nat.le_refl _)
  have hk1 := (below_one w1 (.cells #[.int .i64 1, .int .i64 0, .string ⟨#[]⟩, .slice none 0 0] 61))
  have hlt := (Array.getElem?_eq_some_iff.1 HC.out.1).1
  have hx := (hk1.block _ hlt).trans HC.out.1
  have hy := HC.out.2.trans (hk1.mono HC.out.2.size)
  have hz : w.heap.size < (w1.alloc (.cells #[.int .i64 1, .int .i64 0, .string ⟨#[]⟩, .slice none 0 0] 61)).heap.size := Nat.lt_of_lt_of_le hlt hk1.size
  change Lv (w1.alloc (.cells #[.int .i64 1, .int .i64 0, .string ⟨#[]⟩, .slice none 0 0] 61)) w1.heap.size listT.l _ at hl
  have HL := Lib.hid (And.intro hl (And.intro hx (And.intro hy (And.intro hz hlt))))
  have e0 := blk_cellT hx 0
  have e1 := blk_cellT hx 1
  have e2 := blk_cellT hx 2
  have e3 := blk_cellT hx 3
  have g0 := blk_free hx
  clear hb1 hbx hbb hl hx hy hz hk1 hlt HC
  go_wp2_with fail
  obtain ⟨hl, hx, hy, hz, hlt⟩ := HL.out
  clear e0 e1 e2 e3 g0 HL
  generalize w1.alloc (.cells #[.int .i64 1, .int .i64 0, .string ⟨#[]⟩, .slice none 0 0] 61) = W1 at hl hx hy hz ⊢
  generalize (Value.slice (some ⟨w1.heap.size, 0, none⟩) 1 1) = U at hl ⊢
  have hs := ty_set hx (.int .i64 2) (.int .i64 9) (.string ⟨#[108, 105, 115, 116]⟩) U
  have hsb := ty_below hy (Nat.le_refl _) (.int .i64 2) (.int .i64 9) (.string ⟨#[108, 105, 115, 116]⟩) U
  have hu := (hl.four hlt (.int .i64 2) (.int .i64 9) (.string ⟨#[108, 105, 115, 116]⟩) U).mono (Nat.le_of_lt hlt)
  generalize World.setCell (World.setCell (World.setCell (World.setCell _ _ _) _ _) _ _) _ _ = W4 at hs hsb hu ⊢
  have f0 := blk_cellT hs 0
  have f1 := blk_cellT hs 1
  have f2 := blk_cellT hs 2
  have f3 := blk_cellT hs 3
  exact bodyPost_ret (v := .agg #[.int .i64 2, .int .i64 9, .string ⟨#[108, 105, 115, 116]⟩, U]) (by simp [results, Tryd.results74, go_sem, f0, f1, f2, f3]) rfl ⟨⟨U, rfl, hu⟩, hsb⟩
set_option maxRecDepth 100000 in
set_option maxHeartbeats 8000000 in
theorem cellof_any (w : World) : Calls Tryd.prog 75 #[] w fun e w' => (∃ u, e = .returned (tyA cellT u) ∧ Lv w' w.heap.size cellT.l u) ∧ Below w.heap.size w w' := by
  have HBX := Lib.hid (below_one w (.cells #[.int .i64 0, .int .i64 0, .string ⟨#[]⟩, .slice none 0 0] 61))
  go_enter Tryd.func75, Tryd.ntmps75
  go_wp2_with fail
  refine (element_any _).mono ?_
  rintro e w1 ⟨rfl, hb1⟩
  have hbx := box_stayT hb1
  have hbb := HBX.out.trans (hb1.mono HBX.out.size)
  have HC := Lib.hid (And.intro hbx hbb)
  clear hb1 hbx hbb HBX
  go_wp2_with fail
  refine (listof_any _).mono ?_
  rintro e w2 ⟨⟨u, rfl, hl0⟩, hb2⟩
  have hlt1 := (Array.getElem?_eq_some_iff.1 HC.out.1).1
  have hbx := (hb2.block _ hlt1).trans HC.out.1
  have hbb := HC.out.2.trans (hb2.mono HC.out.2.size)
  have hlt := (Array.getElem?_eq_some_iff.1 hbx).1
  have hlo := hl0.mono (show w.heap.size + 1 ≤ w1.heap.size by omega)
  have hl := Lv.two (w := w2) (b := w.heap.size + 1) (t := elemT) (t' := listT) (Lv.nil w2 _) hlo (by omega)
  have hk1 := (below_one w2 (.cells #[.int .i64 1, .int .i64 0, .string ⟨#[]⟩, .slice none 0 0, .int .i64 2, .int .i64 9, .string ⟨#[108, 105, 115, 116]⟩, u] 61))
  have hx := (hk1.block _ hlt).trans hbx
  have hy := hbb.trans (hk1.mono hbb.size)
  change Lv (w2.alloc (.cells #[.int .i64 1, .int .i64 0, .string ⟨#[]⟩, .slice none 0 0, .int .i64 2, .int .i64 9, .string ⟨#[108, 105, 115, 116]⟩, u] 61)) (w.heap.size + 1) cellT.l _ at hl
  have HL := Lib.hid (And.intro hl (And.intro hx hy))
  have e0 := blk_cellT hx 0
  have e1 := blk_cellT hx 1
  have e2 := blk_cellT hx 2
  have e3 := blk_cellT hx 3
  have g0 := blk_free hx
  clear hb2 hbx hbb hl hlo hl0 hx hy hk1 hlt hlt1 HC
  unfold tyA listT Ty.k Ty.n Ty.s
  go_wp2_with fail
  obtain ⟨hl, hx, hy⟩ := HL.out
  clear e0 e1 e2 e3 g0 HL
  generalize w2.alloc (.cells #[.int .i64 1, .int .i64 0, .string ⟨#[]⟩, .slice none 0 0, .int .i64 2, .int .i64 9, .string ⟨#[108, 105, 115, 116]⟩, u] 61) = W1 at hl hx hy ⊢
  generalize (Value.slice (some ⟨w2.heap.size, 0, none⟩) 2 2) = U at hl ⊢
  have hs := ty_set hx (.int .i64 2) (.int .i64 6) (.string ⟨#[42]⟩) U
  have hsb := ty_below hy (Nat.le_refl _) (.int .i64 2) (.int .i64 6) (.string ⟨#[42]⟩) U
  have hu := (hl.four (Nat.lt_succ_self _) (.int .i64 2) (.int .i64 6) (.string ⟨#[42]⟩) U).mono (Nat.le_succ _)
  generalize World.setCell (World.setCell (World.setCell (World.setCell _ _ _) _ _) _ _) _ _ = W4 at hs hsb hu ⊢
  have f0 := blk_cellT hs 0
  have f1 := blk_cellT hs 1
  have f2 := blk_cellT hs 2
  have f3 := blk_cellT hs 3
  exact bodyPost_ret (v := .agg #[.int .i64 2, .int .i64 6, .string ⟨#[42]⟩, U]) (by simp [results, Tryd.results75, go_sem, f0, f1, f2, f3]) rfl ⟨⟨U, rfl, hu⟩, hsb⟩
end Go.Proofs.YtlakfnlkiebpdaaDoor
