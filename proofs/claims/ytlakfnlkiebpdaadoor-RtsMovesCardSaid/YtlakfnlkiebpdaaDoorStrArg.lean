/- A slice of strings as an argument: opened into the strings that it reads as, and read again behind a call that keeps what was there. Conditions: none. -/
import Derived.Test.YtlakfnlkiebpdaaDoorProg
import Derived.Test.YtlakfnlkiebpdaaDoorCards
import Derived.SliceStrings
import Derived.Carry
import Derived.WalkKit
import Derived.SizedLaws
import Derived.ProofKit
namespace Go.Proofs.YtlakfnlkiebpdaaDoor
open Go Go.ChangeShapes Go.WideShapes Go.ChangeAt Go.ChangeMaps Go.RowKit
/-- a slice of strings as it lies -/
structure StrsV (w : World) (a : Option Addr) (N : Nat) (ls : List ByteArray) : Prop where
  len : ls.length = N
  few : (N : Int) ≤ 9223372036854775807
  size : ∀ s ∈ ls, s.size ≤ 9223372036854775807
  cell : ∀ (j : Nat) (s : ByteArray), ls[j]? = some s → ∃ g off, a = some ⟨g, off, none⟩ ∧ g < w.heap.size ∧ w.cell? ⟨g, off + j, none⟩ = some (.string s)
theorem StrsV.below {w w1 : World} {a : Option Addr} {N : Nat} {ls : List ByteArray} (h : StrsV w a N ls) (hb : Below w.heap.size w w1) : StrsV w1 a N ls :=
  ⟨h.len, h.few, h.size, fun j n hj => by
    obtain ⟨g, off, h1, h2, h3⟩ := h.cell j n hj
    exact ⟨g, off, h1, by have := hb.size; omega, (World.cell?_of_block (hb.block g h2)).trans h3⟩⟩
theorem laidOut_ok : laidOutB Tryd.prog = true := by kernel_rfl
theorem cellsStr : Tryd.prog.cellsOf 9 = 1 := by kernel_rfl
theorem has_ltS {P : Program} {w : World} {r : Reach} {base : Nat} {a : Addr} {e : TypeId} {n : Nat} (h : w.has P r base a e n) : a.spot = none ∧ a.block < w.heap.size := by
  obtain ⟨_, h2, row, cells, h3, _⟩ := h
  refine ⟨h2, ?_⟩
  by_cases hlt : a.block < w.heap.size
  · exact hlt
  · have : w.heap[a.block]? = none := Array.getElem?_eq_none (by omega)
    simp [World.shape?, this] at h3
set_option maxRecDepth 100000 in
theorem again_any {H : Type} {enc : TypeId × Value → H} {t : TypeId} (hr : Tryd.prog.readableRec t = true) (hrow : t < Tryd.prog.types.size) {W W' : World} {v : Value} {d : DataW H} {ps : List MemPlace} {sp : Nat → Bool}
    (h : DataW.Trod enc Tryd.prog W 0 (fun _ => true) true t v d ps) (hb : Below W.heap.size W W') (hlt : ∀ x ∈ ps, x.block < W.heap.size) (hsp : ∀ q ∈ ps, sp q.block = true) :
    DataW.Trod enc Tryd.prog W' 0 sp true t v d ps :=
  WideElems.Trod_stays laidOut_ok hr hrow h (fun x hx => hb.same (hlt x hx)) hsp
set_option maxRecDepth 100000 in
theorem open_strs {H : Type} {enc : TypeId × Value → H} {W : World} {b0 : Nat} {v : Value} {d : DataW H} {p : List MemPlace} (hval : Value.okWide Tryd.prog W .any b0 42 v)
    (hd : DataW.Trod enc Tryd.prog W 0 (fun _ => true) true 42 v d p) : ∃ a N c ls, v = .slice a N c ∧ StrsV W a N ls := by
  obtain ⟨a0, len, cap, rfl⟩ := okWide_slice Tryd.underlying42 hval
  obtain ⟨fuel, hf⟩ := hd
  rcases open_strings Tryd.underlying42 Tryd.underlying9 cellsStr hf with ⟨hcs, hx⟩ | ⟨a, len', cap', ss, hcs, _, hl, hm, hz, hx, hcell, hwz⟩
  · simp [Value.cells] at hcs
    obtain ⟨rfl, rfl, rfl⟩ := hcs
    exact ⟨none, 0, 0, [], rfl, rfl, by omega, fun s hs => absurd hs List.not_mem_nil, fun j s hs => by simp at hs⟩
  · simp [Value.cells] at hcs
    obtain ⟨rfl, rfl, rfl⟩ := hcs
    simp only [if_true] at hz
    have hval' := hval
    simp only [Value.okWide, Cell.okWide, Cell.ok, Tryd.underlying42] at hval'
    obtain ⟨hsp, hlt⟩ := has_ltS hval'.2.2
    obtain ⟨b, off, spot⟩ := a
    simp only at hsp hlt
    subst hsp
    unfold maxLen at hm hwz
    refine ⟨some ⟨b, off, none⟩, len, cap, ss.take len, rfl, by simp; omega, by omega, fun s hs => hwz s (List.mem_of_mem_take hs), fun j s hs => ⟨b, off, rfl, hlt, ?_⟩⟩
    have hj : j < len := by
      have := (List.getElem?_eq_some_iff.1 hs).1
      simp at this; omega
    rw [List.getElem?_take_of_lt hj] at hs
    have h1 := hcell j (by omega)
    rw [List.getD_eq_getElem?_getD, hs] at h1
    rw [show (⟨b, off, none⟩ : Addr).add j = ⟨b, off + j, none⟩ from by unfold Addr.add; split <;> simp_all] at h1
    exact h1
end Go.Proofs.YtlakfnlkiebpdaaDoor
