/- A slice of instructions as an argument: opened into the instructions that it reads as, and read again behind a call that keeps what was there. Conditions: none. -/
import Derived.Test.YtfpgalckmfdcmaaDoorIsaLaid
import Derived.Test.YtfpgalckmfdcmaaDoorIsaLstM
import Derived.Deep.Slices
import Derived.Deep.Fields
import Derived.DataShut
namespace Go.Proofs.YtfpgalckmfdcmaaDoor
open Go Go.ChangeShapes Go.WideShapes Go.ChangeAt Go.ChangeMaps Go.RowKit Go.Deep
theorem has_lt {P : Program} {w : World} {r : Reach} {base : Nat} {a : Addr} {e : TypeId} {n : Nat} (h : w.has P r base a e n) : a.spot = none ∧ a.block < w.heap.size := by
  obtain ⟨_, h2, row, cells, h3, _⟩ := h
  refine ⟨h2, ?_⟩
  by_cases hlt : a.block < w.heap.size
  · exact hlt
  · have : w.heap[a.block]? = none := Array.getElem?_eq_none (by omega)
    simp [World.shape?, this] at h3
/-- a slice of integers as it came in -/
def IntsV (W : World) (v : Value) (zs : List Int) : Prop := (v = .slice none 0 0 ∧ zs = []) ∨ ∃ b off cap, v = .slice (some ⟨b, off, none⟩) zs.length cap ∧ b < W.heap.size ∧ zs.length ≤ cap ∧ cap ≤ 9223372036854775807 ∧ (∀ j, j < zs.length → W.cell? ⟨b, off + j, none⟩ = some (.int .i64 (zs.getD j 0))) ∧ ∀ z ∈ zs, -9223372036854775808 ≤ z ∧ z ≤ 9223372036854775807
set_option maxRecDepth 100000
theorem cellsIn5 : Tryd.prog.cellsOf 23 = 5 := by kernel_rfl
theorem cellsInt : Tryd.prog.cellsOf 3 = 1 := by kernel_rfl
section
variable {H : Type} {enc : TypeId × Value → H} {w w' : World} {base : Nat} {sp sp' : Nat → Bool} {held : Bool}
theorem mapM_same {α β : Type} {f g : α → Option β} : ∀ {l : List α}, (∀ x ∈ l, f x = g x) → l.mapM f = l.mapM g
  | [], _ => by simp
  | x :: xs, h => by
    rw [List.mapM_cons, List.mapM_cons, h x (List.mem_cons_self ..), mapM_same (fun y hy => h y (List.mem_cons_of_mem _ hy))]
theorem trod_int_free {P : Program} {t : TypeId} {k : IntKind} (ht : P.underlying t = some (.int k)) (n : Nat) (cs : List Value) : DataW.trod enc P w base sp held n t cs = DataW.trod enc P w' base sp' held n t cs := by
  cases n with
  | zero => simp [DataW.trod]
  | succ n =>
    rw [DataW.trod_step, DataW.trod_step]
    unfold DataW.trodStep
    rw [ht]
    rcases cs with _ | ⟨c, _ | ⟨c2, cs⟩⟩
    · rfl
    · cases c <;> rfl
    · cases c <;> rfl
theorem trod_ins_free (n : Nat) (cs : List Value) : DataW.trod enc Tryd.prog w base sp held n 23 cs = DataW.trod enc Tryd.prog w' base sp' held n 23 cs := by
  cases n with
  | zero => simp [DataW.trod]
  | succ n =>
    rw [DataW.trod_step, DataW.trod_step]
    unfold DataW.trodStep
    simp only [Tryd.underlying23]
    rw [mapM_same]
    intro f hf
    have ht : f.type = 3 := by
      simp only [List.mem_cons, List.not_mem_nil, or_false] at hf
      rcases hf with rfl | rfl | rfl | rfl | rfl <;> rfl
    rw [ht]; exact trod_int_free Tryd.underlying3 n _
end
/-- an instruction, read -/
theorem ins_cells5 {H : Type} {enc : TypeId × Value → H} {w : World} {base n : Nat} {sp : Nat → Bool} {held : Bool} {cs : List Value} {x : DataW H × List MemPlace} (h : DataW.trod enc Tryd.prog w base sp held n 23 cs = some x) :
    ∃ y : I5, cs = y.vs := by
  obtain ⟨xs, n', _, _, hlen, hyl, hf⟩ := DataW.trod_struct Tryd.underlying23 h
  rw [cellsIn5] at hlen
  match cs, hlen with
  | [c0, c1, c2, c3, c4], _ =>
    match xs, hyl with
    | [y0, y1, y2, y3, y4], _ =>
      have g0 : DataW.trod enc Tryd.prog w base sp held n' 3 (([c0, c1, c2, c3, c4].drop 0).take (Tryd.prog.cellsOf 3)) = some y0 := hf 0 _ rfl
      rw [cellsInt] at g0
      obtain ⟨z0, e0, _, _⟩ := DataW.trod_int Tryd.underlying3 (show DataW.trod enc Tryd.prog w base sp held n' 3 [c0] = some y0 from g0)
      have g1 : DataW.trod enc Tryd.prog w base sp held n' 3 (([c0, c1, c2, c3, c4].drop 1).take (Tryd.prog.cellsOf 3)) = some y1 := hf 1 _ rfl
      rw [cellsInt] at g1
      obtain ⟨z1, e1, _, _⟩ := DataW.trod_int Tryd.underlying3 (show DataW.trod enc Tryd.prog w base sp held n' 3 [c1] = some y1 from g1)
      have g2 : DataW.trod enc Tryd.prog w base sp held n' 3 (([c0, c1, c2, c3, c4].drop 2).take (Tryd.prog.cellsOf 3)) = some y2 := hf 2 _ rfl
      rw [cellsInt] at g2
      obtain ⟨z2, e2, _, _⟩ := DataW.trod_int Tryd.underlying3 (show DataW.trod enc Tryd.prog w base sp held n' 3 [c2] = some y2 from g2)
      have g3 : DataW.trod enc Tryd.prog w base sp held n' 3 (([c0, c1, c2, c3, c4].drop 3).take (Tryd.prog.cellsOf 3)) = some y3 := hf 3 _ rfl
      rw [cellsInt] at g3
      obtain ⟨z3, e3, _, _⟩ := DataW.trod_int Tryd.underlying3 (show DataW.trod enc Tryd.prog w base sp held n' 3 [c3] = some y3 from g3)
      have g4 : DataW.trod enc Tryd.prog w base sp held n' 3 (([c0, c1, c2, c3, c4].drop 4).take (Tryd.prog.cellsOf 3)) = some y4 := hf 4 _ rfl
      rw [cellsInt] at g4
      obtain ⟨z4, e4, _, _⟩ := DataW.trod_int Tryd.underlying3 (show DataW.trod enc Tryd.prog w base sp held n' 3 [c4] = some y4 from g4)
      simp only [List.cons.injEq, and_true] at e0 e1 e2 e3 e4
      subst e0 e1 e2 e3 e4
      exact ⟨⟨z0, z1, z2, z3, z4⟩, rfl⟩
theorem list_of_each {P : Nat → I5 → Prop} : ∀ n : Nat, (∀ j, j < n → ∃ x, P j x) → ∃ l : List I5, l.length = n ∧ ∀ j x, l[j]? = some x → P j x
  | 0, _ => ⟨[], rfl, fun j x h => by simp at h⟩
  | n + 1, h => by
    obtain ⟨l, hl, hp⟩ := list_of_each n (fun j hj => h j (by omega))
    obtain ⟨x, hx⟩ := h n (Nat.lt_succ_self n)
    refine ⟨l ++ [x], by simp [hl], fun j y hy => ?_⟩
    by_cases e : j < n
    · rw [List.getElem?_append_left (by rw [hl]; exact e)] at hy
      exact hp j y hy
    · have hlt := (List.getElem?_eq_some_iff.1 hy).1
      rw [List.length_append, hl] at hlt
      have hj : j = n := by simp at hlt; omega
      subst hj
      have e2 : (l ++ [x])[j]? = some x := by rw [← hl]; simp
      rw [e2] at hy
      obtain rfl := Option.some.inj hy
      exact hx
theorem open_inss {H : Type} {enc : TypeId × Value → H} {W : World} {b0 : Nat} {v : Value} {d : DataW H} {p : List MemPlace} (hval : Value.okWide Tryd.prog W .any b0 32 v)
    (hd : DataW.Trod enc Tryd.prog W 0 (fun _ => true) true 32 v d p) :
    (∃ A n cap l, v = .slice A n cap ∧ SlI W W.heap.size A n cap l) ∧ (∀ (W' : World) (sp : Nat → Bool), Below W.heap.size W W' → (∀ q ∈ p, sp q.block = true) → DataW.Trod enc Tryd.prog W' 0 sp true 32 v d p) := by
  obtain ⟨a0, len, cap, rfl⟩ := okWide_slice Tryd.underlying32 hval
  obtain ⟨fuel, hf⟩ := hd
  rcases open_slice Tryd.underlying32 hf with ⟨hcs, hx⟩ | ⟨a, len', cap', m, n, D, Pl, hcs, _, hl, hm, hmm, hx, hi⟩
  · simp [Value.cells] at hcs
    obtain ⟨rfl, rfl, rfl⟩ := hcs
    simp only [Prod.mk.injEq] at hx
    obtain ⟨rfl, rfl⟩ := hx
    exact ⟨⟨none, 0, 0, [], rfl, rfl, Nat.le_refl _, by omega, fun hj => absurd hj (Nat.lt_irrefl _)⟩, fun W' sp _ _ => shut_slice_nil Tryd.underlying32⟩
  · simp [Value.cells] at hcs
    obtain ⟨rfl, rfl, rfl⟩ := hcs
    simp only [Prod.mk.injEq] at hx
    obtain ⟨rfl, rfl⟩ := hx
    simp only [if_true] at hmm
    subst hmm
    have hval' := hval
    simp only [Value.okWide, Cell.okWide, Cell.ok, Tryd.underlying32] at hval'
    obtain ⟨hsp, hlt⟩ := has_lt hval'.2.2
    obtain ⟨b, off, spot⟩ := a
    simp only at hsp hlt
    subst hsp
    rw [cellsIn5] at hi
    have hx : ∀ j, j < len → ∃ x : I5, ∀ i u, x.vs[i]? = some u → W.cell? ⟨b, off + j * 5 + i, none⟩ = some u := fun j hj => by
      obtain ⟨cs', hc, ht'⟩ := hi j (by omega)
      obtain ⟨y, rfl⟩ := ins_cells5 ht'
      obtain ⟨_, _, hat⟩ := World.cells?_some hc
      refine ⟨y, fun i u hu => ?_⟩
      have h5 : i < 5 := (List.getElem?_eq_some_iff.1 hu).1
      have := hat i h5
      rw [add_plain, add_plain] at this
      rw [this, hu]
    obtain ⟨l, hll, hlx⟩ := list_of_each len hx
    refine ⟨⟨_, len, m, l, rfl, hll, hl, by simpa [maxLen] using hm, fun hj => ⟨b, off, rfl, hlt, fun j x hjx => ?_⟩⟩, fun W' sp hb hq => ?_⟩
    · have h := hlx j x hjx
      exact ⟨h 0 _ rfl, h 1 _ rfl, h 2 _ rfl, h 3 _ rfl, h 4 _ rfl⟩
    · have again : ∀ i, i < m → ∃ cs n, W'.cells? 0 ((⟨b, off, none⟩ : Addr).add (i * Tryd.prog.cellsOf 23)) (Tryd.prog.cellsOf 23) = some cs ∧ DataW.trod enc Tryd.prog W' 0 sp true n 23 cs = some (D i, Pl i) := fun i him => by
        obtain ⟨cs', hc, ht'⟩ := hi i him
        rw [cellsIn5]
        obtain ⟨_, hcl, hat⟩ := World.cells?_some hc
        refine ⟨cs', n, World.cells?_of_each (Nat.zero_le _) hcl (fun l hl => ?_), (trod_ins_free n cs').trans ht'⟩
        rw [← hat l hl, add_plain, add_plain]
        exact hb.cell (p := ⟨b, off + i * 5 + l, none⟩) hlt
      by_cases hs : sp b = true
      · exact shut_slice_whole (a := ⟨b, off, none⟩) Tryd.underlying32 (Nat.zero_le _) hl hm hs D Pl again
      · have hm0 : m = 0 := by
          by_cases q : m = 0
          · exact q
          · exfalso
            apply hs
            have := hq (.cell b off) (List.mem_append_left _ (MemPlace.mem_row.2 ⟨0, by rw [cellsIn5]; omega, by simp⟩))
            simpa only [MemPlace.block] using this
        subst hm0
        have hl0 : len = 0 := by omega
        subst hl0
        exact shut_slice (a := ⟨b, off, none⟩) Tryd.underlying32 (Nat.zero_le _) hl hm (by simpa using hs) D Pl (fun i hi => absurd hi (Nat.not_lt_zero _))
end Go.Proofs.YtfpgalckmfdcmaaDoor
