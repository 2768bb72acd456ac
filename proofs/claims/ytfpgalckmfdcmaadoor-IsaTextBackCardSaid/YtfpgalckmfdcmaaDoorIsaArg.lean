/- An instruction (five integers by value) as an argument: opened to its integers, and shut again. Conditions: none. -/
import Derived.Test.YtfpgalckmfdcmaaDoorProg
import Derived.ProofKit
import Derived.OpenShut
import Derived.Lib.SmallJoins
namespace Go.Proofs.YtfpgalckmfdcmaaDoor
open Go Go.ChangeShapes Go.WideShapes Go.RowKit Go.Deep Go.Joins
section
variable {H : Type} {enc : TypeId × Value → H} {W : World} {base : Nat} {sp : Nat → Bool} {held : Bool}
def insD {H : Type} (o a b c n : Int) : DataW H := .agg [.lit (.int .i64 o), .lit (.int .i64 a), .lit (.int .i64 b), .lit (.int .i64 c), .lit (.int .i64 n)]
theorem cells3 : Tryd.prog.cellsOf 3 = 1 := by kernel_rfl
theorem cellsIns : Tryd.prog.cellsOf 23 = 5 := by kernel_rfl
set_option maxRecDepth 100000 in
theorem open_ins {r : Reach} {b0 : Nat} {v : Value} {d : DataW H} {p : List MemPlace} (hv : Value.okWide Tryd.prog W r b0 23 v) (h : DataW.Trod enc Tryd.prog W base sp held 23 v d p) :
    ∃ o a b c n : Int, v = .agg #[.int .i64 o, .int .i64 a, .int .i64 b, .int .i64 c, .int .i64 n] ∧ d = insD o a b c n ∧ p = [] ∧
      (Lit.int .i64 o).wf = true ∧ (Lit.int .i64 a).wf = true ∧ (Lit.int .i64 b).wf = true ∧ (Lit.int .i64 c).wf = true ∧ (Lit.int .i64 n).wf = true := by
  obtain ⟨cs, rfl, hsz⟩ := okWide_struct Tryd.underlying23 hv
  obtain ⟨l⟩ := cs
  match l, hsz.trans cellsIns with
  | [c0, c1, c2, c3, c4], _ =>
    obtain ⟨fuel, hf⟩ := h
    obtain ⟨xs, m, _, hx, _, hlen, hg⟩ := DataW.trod_struct Tryd.underlying23 hf
    match xs, hlen with
    | [y0, y1, y2, y3, y4], _ =>
      have e0 := hg 0 _ rfl
      have e1 := hg 1 _ rfl
      have e2 := hg 2 _ rfl
      have e3 := hg 3 _ rfl
      have e4 := hg 4 _ rfl
      rw [show ∀ f : Field, f.type = 3 → Tryd.prog.cellsOf f.type = 1 from fun f hf => by rw [hf]; exact cells3] at e0 e1 e2 e3 e4
      all_goals try rfl
      obtain ⟨o, h0, rfl, w0⟩ := DataW.trod_int Tryd.underlying3 (x := y0) e0
      obtain ⟨a, h1, rfl, w1⟩ := DataW.trod_int Tryd.underlying3 (x := y1) e1
      obtain ⟨b, h2, rfl, w2⟩ := DataW.trod_int Tryd.underlying3 (x := y2) e2
      obtain ⟨c, h3, rfl, w3⟩ := DataW.trod_int Tryd.underlying3 (x := y3) e3
      obtain ⟨n, h4, rfl, w4⟩ := DataW.trod_int Tryd.underlying3 (x := y4) e4
      simp [Value.cells] at h0 h1 h2 h3 h4
      subst h0 h1 h2 h3 h4
      simp only [Prod.mk.injEq] at hx
      exact ⟨o, a, b, c, n, rfl, by simpa [insD] using hx.1, by simpa using hx.2, w0, w1, w2, w3, w4⟩
set_option maxRecDepth 100000 in
theorem shut_ins {o a b c n : Int} (h : (Lit.int .i64 o).wf = true ∧ (Lit.int .i64 a).wf = true ∧ (Lit.int .i64 b).wf = true ∧ (Lit.int .i64 c).wf = true ∧ (Lit.int .i64 n).wf = true) :
    DataW.Trod enc Tryd.prog W base sp held 23 (.agg #[.int .i64 o, .int .i64 a, .int .i64 b, .int .i64 c, .int .i64 n]) (insD o a b c n) [] := by
  obtain ⟨h0, h1, h2, h3, h4⟩ := h
  have ti : ∀ z : Int, (Lit.int .i64 z).wf = true → DataW.trod enc Tryd.prog W base sp held 1 3 [.int .i64 z] = some (.lit (.int .i64 z), []) := fun z hz => by simp [DataW.trod, Tryd.underlying3, hz]
  refine ⟨2, (trod_struct_mk (xs := [(.lit (.int .i64 o), []), (.lit (.int .i64 a), []), (.lit (.int .i64 b), []), (.lit (.int .i64 c), []), (.lit (.int .i64 n), [])]) Tryd.underlying23 (by rw [cellsIns]; rfl) ?_).trans (by simp [insD])⟩
  simp [Value.cells, cells3, ti, h0, h1, h2, h3, h4]
end
end Go.Proofs.YtfpgalckmfdcmaaDoor
