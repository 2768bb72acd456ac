/- The contract of SameType at equal types. Condition: none. -/
import Derived.Deep.RegionHeld3
import Derived.Test.YtlakfnlkiebpdaaDoorRtsTy
namespace Go.Proofs.YtlakfnlkiebpdaaDoor
open Go Go.RowKit
theorem HasL.shape {w : World} {b : Nat} {l : List Ty} {u : Value} (h : HasL w b l u) : ∃ A cap, u = .slice A l.length cap := by
  cases h with
  | nil => exact ⟨none, 0, rfl⟩
  | row l g cap us hg hl hc hm => exact ⟨_, cap, rfl⟩
def isS (t : Ty) (u u' : Value) (W : World) : Prop := Calls Tryd.prog 76 #[tyA t u, tyA t u'] W fun e w' => e = .returned (.bool true) ∧ Below W.heap.size W w'
/-- what a walk wants to know of a row at its number i -/
structure AtL (w : World) (g g' i : Nat) (x : Ty) (v v' : Value) : Prop where
  a0 : w.cell? ⟨g, i * 4, none⟩ = some (.int .i64 x.k)
  a1 : w.cell? ⟨g, i * 4 + 1, none⟩ = some (.int .i64 x.n)
  a2 : w.cell? ⟨g, i * 4 + 2, none⟩ = some (.string x.s)
  a3 : w.cell? ⟨g, i * 4 + 3, none⟩ = some v
  b0 : w.cell? ⟨g', i * 4, none⟩ = some (.int .i64 x.k)
  b1 : w.cell? ⟨g', i * 4 + 1, none⟩ = some (.int .i64 x.n)
  b2 : w.cell? ⟨g', i * 4 + 2, none⟩ = some (.string x.s)
  b3 : w.cell? ⟨g', i * 4 + 3, none⟩ = some v'
theorem below_cell {w W : World} (h : Below w.heap.size w W) {g j : Nat} {v : Value} (hc : w.cell? ⟨g, j, none⟩ = some v) : W.cell? ⟨g, j, none⟩ = some v := (h.cell (p := ⟨g, j, none⟩) (cell_lt hc)).trans hc
theorem AtL.stay {w W : World} {g g' i : Nat} {x : Ty} {v v' : Value} (h : AtL w g g' i x v v') (hb : Below w.heap.size w W) : AtL W g g' i x v v' :=
  ⟨below_cell hb h.a0, below_cell hb h.a1, below_cell hb h.a2, below_cell hb h.a3, below_cell hb h.b0, below_cell hb h.b1, below_cell hb h.b2, below_cell hb h.b3⟩
/-- the boxes of the two -/
structure Bx (W : World) (B C : Nat) (k n : Int) (s : ByteArray) (u u' : Value) : Prop where
  a : W.heap[B]? = some (.cells #[.int .i64 k, .int .i64 n, .string s, u] 61 (0, 0))
  b : W.heap[C]? = some (.cells #[.int .i64 k, .int .i64 n, .string s, u'] 61 (0, 0))
theorem Bx.stay {w W : World} {B C : Nat} {k n : Int} {s : ByteArray} {u u' : Value} (h : Bx w B C k n s u u') (hb : Below w.heap.size w W) : Bx W B C k n s u u' :=
  ⟨(hb.block _ (Array.getElem?_eq_some_iff.1 h.a).1).trans h.a, (hb.block _ (Array.getElem?_eq_some_iff.1 h.b).1).trans h.b⟩
theorem Bx.new (W : World) (k n : Int) (s : ByteArray) (u u' : Value) : Bx ((W.alloc (.cells #[.int .i64 k, .int .i64 n, .string s, u] 61)).alloc (.cells #[.int .i64 k, .int .i64 n, .string s, u'] 61)) W.heap.size (W.heap.size + 1) k n s u u' := by
  refine ⟨((below_one _ _).block _ (by rw [World.size_alloc]; omega)).trans (heap_alloc_new W _), ?_⟩
  have := heap_alloc_new (W.alloc (.cells #[.int .i64 k, .int .i64 n, .string s, u] 61)) (.cells #[.int .i64 k, .int .i64 n, .string s, u'] 61)
  rwa [World.size_alloc] at this
def SS (g g' B j : Nat) (x : Ty) (v v' u u' : Value) (wr Y : World) : Prop := Y.cell? ⟨B, 3, none⟩ = some u ∧ Y.cell? ⟨B + 1, 3, none⟩ = some u' ∧ Y.cell? ⟨g, j * 4, none⟩ = some (.int .i64 x.k) ∧ Y.cell? ⟨g, j * 4 + 1, none⟩ = some (.int .i64 x.n) ∧ Y.cell? ⟨g, j * 4 + 2, none⟩ = some (.string x.s) ∧ Y.cell? ⟨g, j * 4 + 3, none⟩ = some v ∧ Y.cell? ⟨g', j * 4, none⟩ = some (.int .i64 x.k) ∧ Y.cell? ⟨g', j * 4 + 1, none⟩ = some (.int .i64 x.n) ∧ Y.cell? ⟨g', j * 4 + 2, none⟩ = some (.string x.s) ∧ Y.cell? ⟨g', j * 4 + 3, none⟩ = some v' ∧ Below wr.heap.size wr Y
theorem pbT {a b c d e f g h i j k : Prop} (q : a ∧ b ∧ c ∧ d ∧ e ∧ f ∧ g ∧ h ∧ i ∧ j ∧ k) : k := q.2.2.2.2.2.2.2.2.2.2
set_option maxRecDepth 100000 in
set_option maxHeartbeats 8000000 in
theorem same_walk (k n : Int) (s : ByteArray) (L : Nat) (W : World) (A A' : Option Addr) (cap cap' : Nat)
    (hA : 0 < L → ∃ g g', A = some ⟨g, 0, none⟩ ∧ A' = some ⟨g', 0, none⟩ ∧ L ≤ cap ∧ L ≤ cap' ∧ cap ≤ 1000000 ∧ cap' ≤ 1000000 ∧ ∀ i, i < L → ∃ x v v', AtL W g g' i x v v' ∧ ∀ W1, Below W.heap.size W W1 → isS x v v' W1) :
    Calls Tryd.prog 76 #[.agg #[.int .i64 k, .int .i64 n, .string s, .slice A L cap], .agg #[.int .i64 k, .int .i64 n, .string s, .slice A' L cap']] W fun e w' => e = .returned (.bool true) ∧ Below W.heap.size W w' := by
  have hL63 : L ≤ 1000000 := by
    by_cases q : 0 < L
    · obtain ⟨_, _, _, _, h1, _, h2, _⟩ := hA q; omega
    · omega
  have h0 : (k != k) = false := by simp
  have h1 : (n != n) = false := by simp
  have h2 : (s.toList == s.toList) = true := by simp
  have h3 : ((L : Int) != (L : Int)) = false := by simp
  obtain ⟨X, hX⟩ : ∃ X, (W.alloc (.cells #[.int .i64 k, .int .i64 n, .string s, .slice A L cap] 61)).alloc (.cells #[.int .i64 k, .int .i64 n, .string s, .slice A' L cap'] 61) = X := ⟨_, rfl⟩
  have hbx := Bx.new W k n s (.slice A L cap) (.slice A' L cap')
  have hbb : Below W.heap.size W X := by rw [← hX]; exact (below_one W _).alloc (by rw [World.size_alloc]; omega) _
  rw [hX] at hbx
  have HB := Lib.hid (And.intro hbx hbb)
  have HA := Lib.hid hA
  have HX := Lib.hid hX
  clear hbx hbb hA hX
  go_enter Tryd.func76, Tryd.ntmps76
  go_wp2_with fail
  rw [HX.out]
  clear h0 h1 h2 h3 HX
  go_loopw [5] (fun i wr => ∃ j : Nat, j ≤ L ∧ i = .int .i64 j ∧ Below W.heap.size W wr ∧ Bx wr W.heap.size (W.heap.size + 1) k n s (.slice A L cap) (.slice A' L cap')) (fun i _ => L - (intOf i).toNat)
  case atStart => exact ⟨0, Nat.zero_le _, rfl, HB.out.2, HB.out.1⟩
  case round =>
    obtain ⟨j, hj, rfl, hb, hbx⟩ := hrel
    have e1 := blk_cellT hbx.a 3
    have e2 := blk_cellT hbx.b 3
    have HR := Lib.hid (And.intro hb hbx)
    clear hb hbx
    by_cases hlt : j < L
    · obtain ⟨g, g', rfl, rfl, c1, c2, c3, c4, hall⟩ := HA.out (by omega)
      obtain ⟨x, v, v', hat, hrec⟩ := hall j hlt
      have hat1 := hat.stay HR.out.1
      obtain ⟨d0, d1, d2, d3, d4, d5, d6, d7⟩ := hat1
      have HREC := Lib.hid (fun W1 (h : Below wr.heap.size wr W1) => (hrec W1 (HR.out.1.trans (h.mono HR.out.1.size))))
      clear hrec hall hat
      go_wp2_with fail
      have HS := Lib.hid (show ∀ Y, Below wr.heap.size wr Y → SS g g' W.heap.size j x v v' (.slice (some ⟨g, 0, none⟩) L cap) (.slice (some ⟨g', 0, none⟩) L cap') wr Y from fun Y hY => ⟨below_cell hY e1, below_cell hY e2, below_cell hY d0, below_cell hY d1, below_cell hY d2, below_cell hY d3, below_cell hY d4, below_cell hY d5, below_cell hY d6, below_cell hY d7, hY⟩)
      have hd0 := HS.out wr (Below.refl _ _)
      unfold SS at HS hd0
      have HRX := Lib.hid (fun (Y : World) (hY : Below wr.heap.size wr Y) => (HREC.out Y hY).mono fun e w' ⟨h1, h2⟩ => (⟨h1, hY.trans (h2.mono hY.size)⟩ : e = Ending.returned (.bool true) ∧ Below wr.heap.size wr w'))
      unfold tyA at HRX
      clear HREC
      go_region_held3 (fun Y => Y.cell? ⟨W.heap.size, 3, none⟩ = some (.slice (some ⟨g, 0, none⟩) L cap) ∧ Y.cell? ⟨W.heap.size + 1, 3, none⟩ = some (.slice (some ⟨g', 0, none⟩) L cap') ∧ Y.cell? ⟨g, j * 4, none⟩ = some (.int .i64 x.k) ∧ Y.cell? ⟨g, j * 4 + 1, none⟩ = some (.int .i64 x.n) ∧ Y.cell? ⟨g, j * 4 + 2, none⟩ = some (.string x.s) ∧ Y.cell? ⟨g, j * 4 + 3, none⟩ = some v ∧ Y.cell? ⟨g', j * 4, none⟩ = some (.int .i64 x.k) ∧ Y.cell? ⟨g', j * 4 + 1, none⟩ = some (.int .i64 x.n) ∧ Y.cell? ⟨g', j * 4 + 2, none⟩ = some (.string x.s) ∧ Y.cell? ⟨g', j * 4 + 3, none⟩ = some v' ∧ Below wr.heap.size wr Y)
        (first | (with_reducible assumption) | (with_reducible exact HS.out _ (Below.drew (Below.refl _ _))) | (with_reducible exact HS.out _ (by with_reducible assumption)))
        (first | (go_at_call 76; (with_reducible refine (HRX.out _ (pbT (by with_reducible assumption))).mono ?_); rintro e w' ⟨rfl, hww⟩))
      have HW := Lib.hid (And.intro (HR.out.1.trans (hww.mono HR.out.1.size)) (HR.out.2.stay hww))
      clear hww
      go_wp2_with fail
      exact ⟨⟨j + 1, hlt, by go_num, HW.out.1, HW.out.2⟩, by simp [intOf]; omega⟩
    · obtain rfl : j = L := by omega
      go_wp2_with fail
      go_ret
      exact ⟨rfl, HR.out.1⟩
theorem same_types {w : World} {b : Nat} {l : List Ty} {u : Value} (h : HasL w b l u) : ∀ (t : Ty), t.l = l → ∀ (u' : Value) (b' : Nat), HasL w b' l u' → ∀ W, Below w.heap.size w W → isS t u u' W := by
  induction h with
  | nil =>
    intro t ht u' b' h' W hW
    have hu' : u' = .slice none 0 0 := by
      cases h' with
      | nil => rfl
      | row l g cap us hg hl => simp at hl
    subst hu'
    exact same_walk t.k t.n t.s 0 W none none 0 0 (fun q => absurd q (by omega))
  | row l g cap us hg hl hc hm h0 h1 h2 h3 hs ih =>
    intro t ht u' b' h' W hW
    cases h' with
    | nil => simp at hl
    | row _ g' cap' us' hg' hl' hc' hm' h0' h1' h2' h3' hs' =>
      refine same_walk t.k t.n t.s l.length W (some ⟨g, 0, none⟩) (some ⟨g', 0, none⟩) cap cap' fun _ => ⟨g, g', rfl, rfl, hc, hc', hm, hm', fun i hi => ?_⟩
      have hx : l[i]? = some l[i] := List.getElem?_eq_getElem hi
      refine ⟨l[i], us i, us' i, AtL.stay ⟨h0 i _ hx, h1 i _ hx, h2 i _ hx, h3 i _ hx, h0' i _ hx, h1' i _ hx, h2' i _ hx, h3' i _ hx⟩ hW, fun W1 hW1 => ih i _ hx _ rfl _ _ (hs' i _ hx) W1 (hW.trans (hW1.mono hW.size))⟩
end Go.Proofs.YtlakfnlkiebpdaaDoor
