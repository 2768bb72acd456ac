/- A token, and a slice of tokens, as an argument: opened into what they read as. Conditions: none. -/
import Derived.Test.YtphhokpbkcdljaaDoorStrArg
import Derived.Test.YtphhokpbkcdljaaDoorLexSeven
import Derived.Lib.SmallJoins
import Derived.Deep.Slices
import Derived.Deep.Fields
namespace Go.Proofs.YtphhokpbkcdljaaDoor
open Go Go.ChangeShapes Go.WideShapes Go.ChangeAt Go.ChangeMaps Go.RowKit Go.Deep
theorem cellsTok : Tryd.prog.cellsOf 32 = 4 := by kernel_rfl
theorem cellsIntT : Tryd.prog.cellsOf 3 = 1 := by kernel_rfl
theorem cellsI64T : Tryd.prog.cellsOf 2 = 1 := by kernel_rfl
theorem tok_cells {H : Type} {enc : TypeId × Value → H} {w : World} {base n : Nat} {sp : Nat → Bool} {held : Bool} {cs : List Value} {x : DataW H × List MemPlace} (h : DataW.trod enc Tryd.prog w base sp held n 32 cs = some x) :
    ∃ t : TkB, cs = [.int .i64 t.k, .string t.s, .int .i64 t.n, .int .i64 t.a] ∧ t.Ok ∧ ∀ R, (∀ m ∈ x.1.weights Tryd.prog 32, m ≤ R) → t.s.size ≤ R := by
  obtain ⟨xs, n', _, hx, hlen, hyl, hf⟩ := DataW.trod_struct Tryd.underlying32 h
  rw [cellsTok] at hlen
  match cs, hlen with
  | [c0, c1, c2, c3], _ =>
    match xs, hyl with
    | [y0, y1, y2, y3], _ =>
      have g0 : DataW.trod enc Tryd.prog w base sp held n' 3 (([c0, c1, c2, c3].drop 0).take (Tryd.prog.cellsOf 3)) = some y0 := hf 0 _ rfl
      rw [cellsIntT] at g0
      have g1 : DataW.trod enc Tryd.prog w base sp held n' 9 (([c0, c1, c2, c3].drop 1).take (Tryd.prog.cellsOf 9)) = some y1 := hf 1 _ rfl
      rw [cellsStr] at g1
      have g2 : DataW.trod enc Tryd.prog w base sp held n' 2 (([c0, c1, c2, c3].drop 2).take (Tryd.prog.cellsOf 2)) = some y2 := hf 2 _ rfl
      rw [cellsI64T] at g2
      have g3 : DataW.trod enc Tryd.prog w base sp held n' 3 (([c0, c1, c2, c3].drop 3).take (Tryd.prog.cellsOf 3)) = some y3 := hf 3 _ rfl
      rw [cellsIntT] at g3
      obtain ⟨z0, e0, _, _⟩ := DataW.trod_int Tryd.underlying3 (show DataW.trod enc Tryd.prog w base sp held n' 3 [c0] = some y0 from g0)
      obtain ⟨z1, e1, d1, w1⟩ := DataW.trod_string Tryd.underlying9 (show DataW.trod enc Tryd.prog w base sp held n' 9 [c1] = some y1 from g1)
      obtain ⟨z2, e2, _, w2⟩ := DataW.trod_int Tryd.underlying2 (show DataW.trod enc Tryd.prog w base sp held n' 2 [c2] = some y2 from g2)
      obtain ⟨z3, e3, _, _⟩ := DataW.trod_int Tryd.underlying3 (show DataW.trod enc Tryd.prog w base sp held n' 3 [c3] = some y3 from g3)
      have b2 : -9223372036854775808 ≤ z2 ∧ z2 ≤ 9223372036854775807 := by simpa [Lit.wf, IntKind.min, IntKind.max, IntKind.signed, IntKind.bits] using w2
      simp only [List.cons.injEq, and_true] at e0 e1 e2 e3
      subst e0 e1 e2 e3
      refine ⟨⟨z0, z1, z2, z3⟩, rfl, ⟨b2.1, b2.2⟩, fun R hR => ?_⟩
      have hm : z1.data.toList.length ∈ x.1.weights Tryd.prog 32 := by
        rw [hx]
        simp only [DataW.weights, Tryd.underlying32]
        refine DataW.weights_mem_each (j := 1) (t := 9) (d := y1.1) rfl rfl _ ?_
        rw [d1]
        simp [DataW.weights]
      have := hR _ hm
      simpa using this
theorem open_tok {H : Type} {enc : TypeId × Value → H} {W : World} {b0 : Nat} {v : Value} {d : DataW H} {p : List MemPlace} (hval : Value.okWide Tryd.prog W .any b0 32 v)
    (hd : DataW.Trod enc Tryd.prog W 0 (fun _ => true) true 32 v d p) : ∃ t : TkB, v = .agg #[.int .i64 t.k, .string t.s, .int .i64 t.n, .int .i64 t.a] ∧ t.Ok := by
  obtain ⟨cs, rfl, hsz⟩ := okWide_struct Tryd.underlying32 hval
  obtain ⟨fuel, hf⟩ := hd
  obtain ⟨t, ht, hok, _⟩ := tok_cells (x := (d, p)) (by simpa [Value.cells] using hf)
  refine ⟨t, ?_, hok⟩
  have : cs.toList = [.int .i64 t.k, .string t.s, .int .i64 t.n, .int .i64 t.a] := by simpa [Value.cells] using ht
  rw [← Array.toList_inj.1 (show cs.toList = (#[.int .i64 t.k, .string t.s, .int .i64 t.n, .int .i64 t.a] : Array Value).toList from this)]
theorem add_plainT (b o i : Nat) : (⟨b, o, none⟩ : Addr).add i = ⟨b, o + i, none⟩ := by unfold Addr.add; split <;> simp_all
theorem weights_all {H : Type} {P : Program} {e : TypeId} : ∀ {l : List (DataW H)} {d : DataW H}, d ∈ l → ∀ n ∈ d.weights P e, n ∈ DataW.weightsAll P e l
  | x :: l, d, h, n, hn => by
    simp only [DataW.weightsAll, List.mem_append]
    rcases List.mem_cons.1 h with rfl | h
    · exact .inl hn
    · exact .inr (weights_all h n hn)
theorem list_of {α : Type} {p : Nat → α → Prop} : ∀ {n : Nat}, (∀ j, j < n → ∃ t, p j t) → ∃ ts : List α, ts.length = n ∧ ∀ j t, ts[j]? = some t → p j t
  | 0, _ => ⟨[], rfl, fun j t h => by simp at h⟩
  | n + 1, h => by
    obtain ⟨ts, hl, hp⟩ := list_of (p := p) (n := n) fun j hj => h j (by omega)
    obtain ⟨t, ht⟩ := h n (Nat.lt_succ_self n)
    refine ⟨ts ++ [t], by simp [hl], fun j x hx => ?_⟩
    by_cases q : j < ts.length
    · rw [List.getElem?_append_left q] at hx; exact hp j x hx
    · have : j = n := by
        have := (List.getElem?_eq_some_iff.1 hx).1
        simp at this; omega
      subst this
      rw [List.getElem?_append_right (by omega)] at hx
      simp [hl] at hx
      subst hx; exact ht
theorem open_toks {H : Type} {enc : TypeId × Value → H} {W : World} {b0 : Nat} {v : Value} {d : DataW H} {p : List MemPlace} (hval : Value.okWide Tryd.prog W .any b0 24 v)
    (hd : DataW.Trod enc Tryd.prog W 0 (fun _ => true) true 24 v d p) :
    ∃ A c ts, v = .slice A ts.length c ∧ (A = none → c = 0 ∧ ts = []) ∧ Tks W.heap.size W A ts ∧ ∀ R, (∀ m ∈ d.weights Tryd.prog 24, m ≤ R) → ∀ t ∈ ts, t.s.size ≤ R := by
  obtain ⟨a0, len, cap, rfl⟩ := okWide_slice Tryd.underlying24 hval
  obtain ⟨fuel, hf⟩ := hd
  rcases open_slice Tryd.underlying24 hf with ⟨hcs, hx⟩ | ⟨a, len', cap', m, n, D, Pl, hcs, _, hl, hm, hmm, hx, hi⟩
  · simp [Value.cells] at hcs
    obtain ⟨rfl, rfl, rfl⟩ := hcs
    exact ⟨none, 0, [], rfl, fun _ => ⟨rfl, rfl⟩, ⟨by simp, fun t ht => by simp at ht, fun j t q => by simp at q⟩, fun R _ t ht => by simp at ht⟩
  · simp [Value.cells] at hcs
    obtain ⟨rfl, rfl, rfl⟩ := hcs
    simp only [if_true] at hmm
    subst hmm
    simp only [Prod.mk.injEq] at hx
    obtain ⟨rfl, rfl⟩ := hx
    have hval' := hval
    simp only [Value.okWide, Cell.okWide, Cell.ok, Tryd.underlying24] at hval'
    obtain ⟨hsp, hlt⟩ := has_ltS hval'.2.2
    obtain ⟨b, off, spot⟩ := a
    simp only at hsp hlt
    subst hsp
    rw [cellsTok] at hi
    obtain ⟨ts, hts, hp⟩ := list_of (n := len) (p := fun (j : Nat) (t : TkB) => t.Ok ∧ (∀ R, (∀ m ∈ (D j).weights Tryd.prog 32, m ≤ R) → t.s.size ≤ R) ∧ W.cell? ⟨b, off + j * 4, none⟩ = some (.int .i64 t.k) ∧ W.cell? ⟨b, off + j * 4 + 1, none⟩ = some (.string t.s) ∧
      W.cell? ⟨b, off + j * 4 + 2, none⟩ = some (.int .i64 t.n) ∧ W.cell? ⟨b, off + j * 4 + 3, none⟩ = some (.int .i64 t.a)) (fun j hj => by
        obtain ⟨cs', hc, ht'⟩ := hi j (by omega)
        obtain ⟨t, rfl, hok, hR⟩ := tok_cells ht'
        obtain ⟨_, _, hat⟩ := World.cells?_some hc
        have ce : ∀ i, i < 4 → W.cell? ⟨b, off + j * 4 + i, none⟩ = [Value.int .i64 t.k, .string t.s, .int .i64 t.n, .int .i64 t.a][i]? := fun i hi => by
          have := hat i hi
          rwa [add_plainT, add_plainT] at this
        exact ⟨t, hok, hR, ce 0 (by decide), ce 1 (by decide), ce 2 (by decide), ce 3 (by decide)⟩)
    subst hts
    unfold maxLen at hm
    refine ⟨_, _, ts, rfl, (fun q => by cases q), ⟨by omega, fun t ht => ?_, fun j t q => ⟨b, off, rfl, hlt, (hp j t q).2.2⟩⟩, fun R hR t ht => ?_⟩
    · obtain ⟨j, hj⟩ := List.mem_iff_getElem?.1 ht
      exact (hp j t hj).1
    · obtain ⟨j, hj⟩ := List.mem_iff_getElem?.1 ht
      refine (hp j t hj).2.1 R fun m hm' => hR m ?_
      simp only [DataW.weights, Tryd.underlying24]
      refine List.mem_cons_of_mem _ (List.mem_append_left _ (weights_all (List.mem_map.2 ⟨j, List.mem_range.2 (List.getElem?_eq_some_iff.1 hj).1, rfl⟩) m hm'))
end Go.Proofs.YtphhokpbkcdljaaDoor
