/- Types and constructors as they came in: a tree that is read off the memory, wherever it lies. Conditions: none. -/
import Derived.Test.YtlakfnlkiebpdaaDoorRtsShM
import Derived.Test.YtlakfnlkiebpdaaDoorRtsMk
import Derived.Test.YtlakfnlkiebpdaaDoorStrArg
import Derived.Deep.Slices
import Derived.Deep.Fields
namespace Go.Proofs.YtlakfnlkiebpdaaDoor
open Go Go.ChangeShapes Go.WideShapes Go.ChangeAt Go.ChangeMaps Go.RowKit Go.Deep
/-- a row of types, as a value, in blocks of which X holds -/
inductive TyX (X : Nat → Prop) (w : World) : List Ty → Value → Prop
  | mk (l : List Ty) (a : Option Addr) (cap : Nat) (us : Nat → Value) (hb : l.length ≤ 9223372036854775807) (hcap : l.length ≤ cap)
      (hc : ∀ i t, l[i]? = some t → ∃ g off, a = some ⟨g, off, none⟩ ∧ X g ∧ ∀ q, q < 4 → w.cell? ⟨g, off + i * 4 + q, none⟩ = (tyC t (us i))[q]?)
      (hs : ∀ i t, l[i]? = some t → TyX X w t.l (us i)) : TyX X w l (.slice a l.length cap)
abbrev TyV (w : World) : List Ty → Value → Prop := TyX (· < w.heap.size) w
theorem TyX.keep {X Y : Nat → Prop} {w w1 : World} {l : List Ty} {v : Value} (h : TyX X w l v) (hb : ∀ g, X g → g < w.heap.size → w1.heap[g]? = w.heap[g]?) (hY : ∀ g, X g → g < w.heap.size → Y g) : TyX Y w1 l v := by
  induction h with
  | mk l a cap us h1 h2 hc _ ih =>
    refine .mk l a cap us h1 h2 (fun i t q => ?_) ih
    obtain ⟨g, off, e1, e2, e3⟩ := hc i t q
    have hl : g < w.heap.size := cell_lt (e3 0 (by decide))
    exact ⟨g, off, e1, hY g e2 hl, fun q hq => (World.cell?_of_block (hb g e2 hl)).trans (e3 q hq)⟩
theorem TyV.below {w w1 : World} {l : List Ty} {v : Value} (h : TyV w l v) (hb : Below w.heap.size w w1) : TyV w1 l v :=
  TyX.keep h (fun g _ hg => hb.block g hg) (fun g _ hg => by have := hb.size; show g < w1.heap.size; omega)
theorem TyX.shape {X : Nat → Prop} {w : World} {l : List Ty} {v : Value} (h : TyX X w l v) : ∃ a cap, v = .slice a l.length cap ∧ l.length ≤ cap ∧ l.length ≤ 9223372036854775807 := by
  cases h with
  | mk l a cap us h1 h2 hc hs => exact ⟨a, cap, rfl, h2, h1⟩
/-- one of a row -/
theorem TyX.get {X : Nat → Prop} {w : World} {l : List Ty} {a : Option Addr} {n cap : Nat} (h : TyX X w l (.slice a n cap)) {i : Nat} {t : Ty} (q : l[i]? = some t) :
    ∃ g off u, a = some ⟨g, off, none⟩ ∧ g < w.heap.size ∧ w.cell? ⟨g, off + i * 4, none⟩ = some (.int .i64 t.k) ∧ w.cell? ⟨g, off + i * 4 + 1, none⟩ = some (.int .i64 t.n) ∧ w.cell? ⟨g, off + i * 4 + 2, none⟩ = some (.string t.s) ∧ w.cell? ⟨g, off + i * 4 + 3, none⟩ = some u ∧ TyX X w t.l u := by
  cases h with
  | mk l a cap us h1 h2 hc hs =>
    obtain ⟨g, off, e1, e2, e3⟩ := hc i t q
    exact ⟨g, off, us i, e1, cell_lt (e3 0 (by decide)), e3 0 (by decide), e3 1 (by decide), e3 2 (by decide), e3 3 (by decide), hs i t q⟩
theorem TyX.nil (X : Nat → Prop) (w : World) (a : Option Addr) (cap : Nat) : TyX X w [] (.slice a 0 cap) :=
  .mk [] a cap (fun _ => undef) (by simp) (Nat.zero_le _) (fun i t q => by simp at q) (fun i t q => by simp at q)
theorem TyV.nil (w : World) (a : Option Addr) (cap : Nat) : TyV w [] (.slice a 0 cap) := TyX.nil _ w a cap
theorem HasL.tyV {w : World} {b : Nat} {l : List Ty} {u : Value} (h : HasL w b l u) : TyV w l u := by
  induction h with
  | nil => exact TyV.nil w none 0
  | row l g cap us hb hl hc hm h0 h1 h2 h3 _ ih =>
    refine .mk l (some ⟨g, 0, none⟩) cap us (by omega) hc (fun i t q => ⟨g, 0, rfl, cell_lt (h0 i t q), fun j hj => ?_⟩) ih
    rw [Nat.zero_add]
    match j, hj with
    | 0, _ => exact h0 i t q
    | 1, _ => exact h1 i t q
    | 2, _ => exact h2 i t q
    | 3, _ => exact h3 i t q
/-- constructors, wherever they lie -/
structure MksV (w : World) (a : Option Addr) (N : Nat) (ms : List Mkr) : Prop where
  len : ms.length = N
  few : N ≤ 9223372036854775807
  cell : ∀ (j : Nat) (m : Mkr), ms[j]? = some m → ∃ g off ua ut, a = some ⟨g, off, none⟩ ∧ g < w.heap.size ∧
    (∀ q, q < 12 → w.cell? ⟨g, off + j * 12 + q, none⟩ = (mkC m.name m.tag m.has m.vars m.arg m.typ ua ut)[q]?) ∧ TyV w m.arg.l ua ∧ TyV w m.typ.l ut ∧ m.name.size ≤ 9223372036854775807
theorem MksV.below {w w1 : World} {a : Option Addr} {N : Nat} {ms : List Mkr} (h : MksV w a N ms) (hb : Below w.heap.size w w1) : MksV w1 a N ms :=
  ⟨h.len, h.few, fun j m hj => by
    obtain ⟨g, off, ua, ut, e1, e2, e3, e4, e5, e6⟩ := h.cell j m hj
    exact ⟨g, off, ua, ut, e1, by have := hb.size; omega, fun q hq => (World.cell?_of_block (hb.block g e2)).trans (e3 q hq), e4.below hb, e5.below hb, e6⟩⟩
theorem MksV.nil (w : World) (a : Option Addr) : MksV w a 0 [] := ⟨rfl, by omega, fun j m h => by simp at h⟩
theorem add_plainV (b o i : Nat) : (⟨b, o, none⟩ : Addr).add i = ⟨b, o + i, none⟩ := by unfold Addr.add; split <;> simp_all
theorem plain_cellV {w : World} {a : Addr} {v : Value} (h : w.cell? a = some v) : a = ⟨a.block, a.off, none⟩ := by
  have := World.cell?_spot h
  obtain ⟨b, o, s⟩ := a
  simp only at this
  subst this
  rfl
theorem list_ofV {α : Type} {p : Nat → α → Prop} : ∀ {n : Nat}, (∀ j, j < n → ∃ t, p j t) → ∃ ts : List α, ts.length = n ∧ ∀ j t, ts[j]? = some t → p j t
  | 0, _ => ⟨[], rfl, fun j t h => by simp at h⟩
  | n + 1, h => by
    obtain ⟨ts, hl, hp⟩ := list_ofV (p := p) (n := n) fun j hj => h j (by omega)
    obtain ⟨t, ht⟩ := h n (Nat.lt_succ_self n)
    refine ⟨ts ++ [t], by simp [hl], fun j x hx => ?_⟩
    by_cases q : j < ts.length
    · rw [List.getElem?_append_left q] at hx; exact hp j x hx
    · have : j = n := by
        have := (List.getElem?_eq_some_iff.1 hx).1
        simp at this; omega
      subst this
      rw [List.getElem?_append_right (by omega)] at hx
      simp [hl] at hx
      subst hx; exact ht
theorem cellsTy : Tryd.prog.cellsOf 61 = 4 := by kernel_rfl
theorem cellsTyL : Tryd.prog.cellsOf 59 = 1 := by kernel_rfl
theorem cellsMk : Tryd.prog.cellsOf 73 = 12 := by kernel_rfl
theorem cellsIntV : Tryd.prog.cellsOf 3 = 1 := by kernel_rfl
theorem cellsBoolV : Tryd.prog.cellsOf 4 = 1 := by kernel_rfl
section
variable {H : Type} {enc : TypeId × Value → H} {W : World} {held : Bool}
/-- the elements of a slice that was read: where they lie, and that each was read -/
theorem slice_at {e : TypeId} {t : TypeId} {n : Nat} {u : Value} {x : DataW H × List MemPlace} (k : Nat) (hk : 0 < k) (hc : Tryd.prog.cellsOf e = k) (ht : Tryd.prog.underlying t = some (.slice e)) (h : DataW.trod enc Tryd.prog W 0 (fun _ => true) held n t [u] = some x) :
    u = .slice none 0 0 ∨ ∃ (a : Addr) (len cap m : Nat), n = m + 1 ∧ u = .slice (some a) len cap ∧ len ≤ cap ∧ cap ≤ 9223372036854775807 ∧
      ∀ i, i < len → ∃ cs y, a = ⟨a.block, a.off, none⟩ ∧ a.block < W.heap.size ∧ (∀ q, q < k → W.cell? ⟨a.block, a.off + i * k + q, none⟩ = cs[q]?) ∧ DataW.trod enc Tryd.prog W 0 (fun _ => true) held m e cs = some y := by
  rcases DataW.trod_slice ht h with ⟨h0, _⟩ | ⟨a, len, cap, elems, rest, m, hn, hcs, _, _, hl, hm, hel, hat, _, _⟩
  · left; simpa using h0
  · right
    simp only [List.cons.injEq, and_true] at hcs
    refine ⟨a, len, cap, m, hn, hcs, hl, by simpa [maxLen] using hm, fun i hi => ?_⟩
    have h1 := hat i hi
    rw [List.getElem?_eq_getElem (by omega), hc] at h1
    obtain ⟨cs, h2, h3⟩ := Option.bind_eq_some_iff.1 h1
    obtain ⟨_, _, h4⟩ := World.cells?_some h2
    have h6 : cs.length = k := (World.cells?_some h2).2.1
    have hp : a = ⟨a.block, a.off, none⟩ := by
      have g1 := hat 0 (by omega)
      rw [List.getElem?_eq_getElem (by omega), hc] at g1
      obtain ⟨cs0, g2, _⟩ := Option.bind_eq_some_iff.1 g1
      obtain ⟨_, g6, g4⟩ := World.cells?_some g2
      have g5 := g4 0 hk
      rw [List.getElem?_eq_getElem (by omega), show (a.add (0 * k)).add 0 = a by simp [Addr.add]] at g5
      exact plain_cellV g5
    have key : ∀ q, q < k → W.cell? ⟨a.block, a.off + i * k + q, none⟩ = cs[q]? := fun q hq => by
      have := h4 q hq
      rw [hp, add_plainV, add_plainV] at this
      exact this
    exact ⟨cs, _, hp, cell_lt ((key 0 hk).trans (List.getElem?_eq_getElem (by omega))), key, h3⟩
set_option maxRecDepth 100000 in
theorem types_open : ∀ n : Nat,
    (∀ cs x, DataW.trod enc Tryd.prog W 0 (fun _ => true) held n 61 cs = some x → ∃ t u, cs = tyC t u ∧ TyV W t.l u) ∧
    (∀ u x, DataW.trod enc Tryd.prog W 0 (fun _ => true) held n 59 [u] = some x → ∃ l, TyV W l u)
  | 0 => ⟨fun cs x h => by simp [DataW.trod] at h, fun u x h => by simp [DataW.trod] at h⟩
  | n + 1 => by
    obtain ⟨ih1, ih2⟩ := types_open n
    refine ⟨fun cs x h => ?_, fun u x h => ?_⟩
    · obtain ⟨xs, n', hn, _, hlen, hyl, hf⟩ := DataW.trod_struct Tryd.underlying61 h
      obtain rfl : n = n' := by omega
      rw [cellsTy] at hlen
      match cs, hlen with
      | [c0, c1, c2, c3], _ =>
        match xs, hyl with
        | [y0, y1, y2, y3], _ =>
          have g0 : DataW.trod enc Tryd.prog W 0 (fun _ => true) held n 3 (([c0, c1, c2, c3].drop 0).take (Tryd.prog.cellsOf 3)) = some y0 := hf 0 _ rfl
          rw [cellsIntV] at g0
          have g1 : DataW.trod enc Tryd.prog W 0 (fun _ => true) held n 3 (([c0, c1, c2, c3].drop 1).take (Tryd.prog.cellsOf 3)) = some y1 := hf 1 _ rfl
          rw [cellsIntV] at g1
          have g2 : DataW.trod enc Tryd.prog W 0 (fun _ => true) held n 9 (([c0, c1, c2, c3].drop 2).take (Tryd.prog.cellsOf 9)) = some y2 := hf 2 _ rfl
          rw [cellsStr] at g2
          have g3 : DataW.trod enc Tryd.prog W 0 (fun _ => true) held n 59 (([c0, c1, c2, c3].drop 3).take (Tryd.prog.cellsOf 59)) = some y3 := hf 3 _ rfl
          rw [cellsTyL] at g3
          obtain ⟨z0, e0, _, _⟩ := DataW.trod_int Tryd.underlying3 (show DataW.trod enc Tryd.prog W 0 (fun _ => true) held n 3 [c0] = some y0 from g0)
          obtain ⟨z1, e1, _, _⟩ := DataW.trod_int Tryd.underlying3 (show DataW.trod enc Tryd.prog W 0 (fun _ => true) held n 3 [c1] = some y1 from g1)
          obtain ⟨z2, e2, _, _⟩ := DataW.trod_string Tryd.underlying9 (show DataW.trod enc Tryd.prog W 0 (fun _ => true) held n 9 [c2] = some y2 from g2)
          obtain ⟨l, hl⟩ := ih2 c3 y3 (show DataW.trod enc Tryd.prog W 0 (fun _ => true) held n 59 [c3] = some y3 from g3)
          simp only [List.cons.injEq, and_true] at e0 e1 e2
          subst e0 e1 e2
          exact ⟨.mk z0 z1 z2 l, c3, rfl, hl⟩
    · rcases slice_at 4 (by decide) cellsTy Tryd.underlying59 h with rfl | ⟨a, len, cap, m, hm, rfl, hl, hc, hi⟩
      · exact ⟨[], TyV.nil W none 0⟩
      · obtain rfl : n = m := by omega
        obtain ⟨ts, htl, hp⟩ := list_ofV (n := len) (p := fun (i : Nat) (tu : Ty × Value) => a = ⟨a.block, a.off, none⟩ ∧ a.block < W.heap.size ∧ (∀ q, q < 4 → W.cell? ⟨a.block, a.off + i * 4 + q, none⟩ = (tyC tu.1 tu.2)[q]?) ∧ TyV W tu.1.l tu.2) (fun i hil => by
          obtain ⟨cs, y, h1, h2, h3, h4⟩ := hi i hil
          obtain ⟨t, u, rfl, hu⟩ := ih1 cs y h4
          exact ⟨(t, u), h1, h2, h3, hu⟩)
        refine ⟨ts.map (·.1), ?_⟩
        have hlm : (ts.map (·.1)).length = len := by simp [htl]
        have := TyX.mk (X := (· < W.heap.size)) (w := W) (ts.map (·.1)) (some a) cap (fun i => ((ts[i]?).getD (zTy, undef)).2) (by omega) (by omega) (fun i t q => ?_) (fun i t q => ?_)
        · rwa [hlm] at this
        · rw [List.getElem?_map] at q
          obtain ⟨tu, q1, rfl⟩ := Option.map_eq_some_iff.1 q
          obtain ⟨h1, h2, h3, h4⟩ := hp i tu q1
          exact ⟨a.block, a.off, by rw [← h1], h2, fun j hj => by rw [q1]; exact h3 j hj⟩
        · rw [List.getElem?_map] at q
          obtain ⟨tu, q1, rfl⟩ := Option.map_eq_some_iff.1 q
          obtain ⟨h1, h2, h3, h4⟩ := hp i tu q1
          simp only [q1, Option.getD_some]
          exact h4
end
set_option maxRecDepth 100000 in
theorem open_type {H : Type} {enc : TypeId × Value → H} {W : World} {b0 : Nat} {v : Value} {d : DataW H} {p : List MemPlace} (hval : Value.okWide Tryd.prog W .any b0 61 v)
    (hd : DataW.Trod enc Tryd.prog W 0 (fun _ => true) true 61 v d p) : ∃ t u, v = tyA t u ∧ TyV W t.l u := by
  obtain ⟨cs, rfl, hsz⟩ := okWide_struct Tryd.underlying61 hval
  obtain ⟨fuel, hf⟩ := hd
  obtain ⟨t, u, ht, hu⟩ := (types_open fuel).1 _ (d, p) (by simpa [Value.cells] using hf)
  refine ⟨t, u, ?_, hu⟩
  have : cs.toList = tyC t u := by simpa [Value.cells] using ht
  unfold tyA
  rw [← Array.toList_inj.1 (show cs.toList = (#[.int .i64 t.k, .int .i64 t.n, .string t.s, u] : Array Value).toList from this)]
section
variable {H : Type} {enc : TypeId × Value → H} {W : World} {held : Bool}
set_option maxRecDepth 100000 in
theorem mk_cells {n : Nat} {cs : List Value} {x : DataW H × List MemPlace} (h : DataW.trod enc Tryd.prog W 0 (fun _ => true) held n 73 cs = some x) :
    ∃ (m : Mkr) (ua ut : Value), cs = mkC m.name m.tag m.has m.vars m.arg m.typ ua ut ∧ TyV W m.arg.l ua ∧ TyV W m.typ.l ut ∧ m.name.size ≤ 9223372036854775807 := by
  obtain ⟨xs, n', hn, _, hlen, hyl, hf⟩ := DataW.trod_struct Tryd.underlying73 h
  rw [cellsMk] at hlen
  match cs, hlen with
  | [c0, c1, c2, c3, c4, c5, c6, c7, c8, c9, c10, c11], _ =>
    match xs, hyl with
    | [y0, y1, y2, y3, y4, y5], _ =>
      obtain ⟨CS, hCS⟩ : ∃ CS, [c0, c1, c2, c3, c4, c5, c6, c7, c8, c9, c10, c11] = CS := ⟨_, rfl⟩
      rw [hCS] at hf
      have g0 : DataW.trod enc Tryd.prog W 0 (fun _ => true) held n' 9 ((CS.drop 0).take (Tryd.prog.cellsOf 9)) = some y0 := hf 0 _ rfl
      have g1 : DataW.trod enc Tryd.prog W 0 (fun _ => true) held n' 3 ((CS.drop 1).take (Tryd.prog.cellsOf 3)) = some y1 := hf 1 _ rfl
      have g2 : DataW.trod enc Tryd.prog W 0 (fun _ => true) held n' 4 ((CS.drop 2).take (Tryd.prog.cellsOf 4)) = some y2 := hf 2 _ rfl
      have g3 : DataW.trod enc Tryd.prog W 0 (fun _ => true) held n' 3 ((CS.drop 3).take (Tryd.prog.cellsOf 3)) = some y3 := hf 3 _ rfl
      have g4 : DataW.trod enc Tryd.prog W 0 (fun _ => true) held n' 61 ((CS.drop 4).take (Tryd.prog.cellsOf 61)) = some y4 := hf 4 _ rfl
      have g5 : DataW.trod enc Tryd.prog W 0 (fun _ => true) held n' 61 ((CS.drop 8).take (Tryd.prog.cellsOf 61)) = some y5 := hf 5 _ rfl
      rw [cellsStr, ← hCS] at g0
      rw [cellsIntV, ← hCS] at g1 g3
      rw [cellsBoolV, ← hCS] at g2
      rw [cellsTy, ← hCS] at g4 g5
      obtain ⟨z0, e0, _, s0⟩ := DataW.trod_string Tryd.underlying9 (show DataW.trod enc Tryd.prog W 0 (fun _ => true) held n' 9 [c0] = some y0 from g0)
      obtain ⟨z1, e1, _, _⟩ := DataW.trod_int Tryd.underlying3 (show DataW.trod enc Tryd.prog W 0 (fun _ => true) held n' 3 [c1] = some y1 from g1)
      obtain ⟨z2, e2, _⟩ := DataW.trod_bool Tryd.underlying4 (show DataW.trod enc Tryd.prog W 0 (fun _ => true) held n' 4 [c2] = some y2 from g2)
      obtain ⟨z3, e3, _, _⟩ := DataW.trod_int Tryd.underlying3 (show DataW.trod enc Tryd.prog W 0 (fun _ => true) held n' 3 [c3] = some y3 from g3)
      obtain ⟨a, ua, ea, ha⟩ := (types_open n').1 [c4, c5, c6, c7] y4 g4
      obtain ⟨t, ut, et, ht⟩ := (types_open n').1 [c8, c9, c10, c11] y5 g5
      simp only [tyC, List.cons.injEq, and_true] at e0 e1 e2 e3 ea et
      obtain ⟨rfl, rfl, rfl, rfl⟩ := ea
      obtain ⟨rfl, rfl, rfl, rfl⟩ := et
      subst e0 e1 e2 e3
      exact ⟨⟨z0, z1, z2, z3, a, t⟩, _, _, rfl, ha, ht, by simpa [maxLen] using s0⟩
end
set_option maxRecDepth 100000 in
theorem open_makers {H : Type} {enc : TypeId × Value → H} {W : World} {b0 : Nat} {v : Value} {d : DataW H} {p : List MemPlace} (hval : Value.okWide Tryd.prog W .any b0 62 v)
    (hd : DataW.Trod enc Tryd.prog W 0 (fun _ => true) true 62 v d p) : ∃ a N c ms, v = .slice a N c ∧ MksV W a N ms := by
  obtain ⟨a0, len, cap, rfl⟩ := okWide_slice Tryd.underlying62 hval
  obtain ⟨fuel, hf⟩ := hd
  rcases slice_at 12 (by decide) cellsMk Tryd.underlying62 (x := (d, p)) (u := .slice a0 len cap) (by simpa [Value.cells] using hf) with h0 | ⟨a, len', cap', m, _, h0, hl, hc, hi⟩
  · injection h0 with h1 h2 h3
    subst h1 h2 h3
    exact ⟨none, 0, 0, [], rfl, MksV.nil W none⟩
  · injection h0 with h1 h2 h3
    subst h1 h2 h3
    obtain ⟨ts, htl, hp⟩ := list_ofV (n := len) (p := fun (i : Nat) (z : Mkr × Value × Value) => a = ⟨a.block, a.off, none⟩ ∧ a.block < W.heap.size ∧
        (∀ q, q < 12 → W.cell? ⟨a.block, a.off + i * 12 + q, none⟩ = (mkC z.1.name z.1.tag z.1.has z.1.vars z.1.arg z.1.typ z.2.1 z.2.2)[q]?) ∧ TyV W z.1.arg.l z.2.1 ∧ TyV W z.1.typ.l z.2.2 ∧ z.1.name.size ≤ 9223372036854775807) (fun i hil => by
      obtain ⟨cs, y, h1, h2, h3, h4⟩ := hi i hil
      obtain ⟨mk, ua, ut, rfl, hu, hv, hz⟩ := mk_cells h4
      exact ⟨(mk, ua, ut), h1, h2, h3, hu, hv, hz⟩)
    refine ⟨_, len, cap, ts.map (·.1), rfl, by simp [htl], by omega, fun j mk q => ?_⟩
    rw [List.getElem?_map] at q
    obtain ⟨z, q1, rfl⟩ := Option.map_eq_some_iff.1 q
    obtain ⟨h1, h2, h3, h4, h5, h6⟩ := hp j z q1
    exact ⟨a.block, a.off, z.2.1, z.2.2, by rw [← h1], h2, h3, h4, h5, h6⟩
end Go.Proofs.YtlakfnlkiebpdaaDoor
