/- A slice of strings as an argument: opened into the strings that it reads as, and read again behind a call that keeps what was there. Conditions: none. -/
import Derived.Test.YtpoblealgooamaaGreatDoorProg
import Derived.Test.YtpoblealgooamaaGreatDoorCards
import Derived.SliceStrings
import Derived.Carry
import Derived.WalkKit
import Derived.SizedLaws
import Derived.ProofKit
namespace Go.Proofs.YtpoblealgooamaaGreatDoor
open Go Go.ChangeShapes Go.WideShapes Go.ChangeAt Go.ChangeMaps Go.RowKit
/-- a slice of strings as it lies -/
structure StrsV (w : World) (a : Option Addr) (N : Nat) (ls : List ByteArray) : Prop where
  len : ls.length = N
  few : (N : Int) ≤ 9223372036854775807
  size : ∀ s ∈ ls, s.size ≤ 9223372036854775807
  cell : ∀ (j : Nat) (s : ByteArray), ls[j]? = some s → ∃ g off, a = some ⟨g, off, none⟩ ∧ g < w.heap.size ∧ w.cell? ⟨g, off + j, none⟩ = some (.string s)
theorem StrsV.below {w w1 : World} {a : Option Addr} {N : Nat} {ls : List ByteArray} (h : StrsV w a N ls) (hb : Below w.heap.size w w1) : StrsV w1 a N ls :=
  ⟨h.len, h.few, h.size, fun j n hj => by
    obtain ⟨g, off, h1, h2, h3⟩ := h.cell j n hj
    exact ⟨g, off, h1, by have := hb.size; omega, (World.cell?_of_block (hb.block g h2)).trans h3⟩⟩
theorem laidOut_ok : laidOutB Tryz.prog = true := by kernel_rfl
theorem cellsStr : Tryz.prog.cellsOf 9 = 1 := by kernel_rfl
theorem has_ltS {P : Program} {w : World} {r : Reach} {base : Nat} {a : Addr} {e : TypeId} {n : Nat} (h : w.has P r base a e n) : a.spot = none ∧ a.block < w.heap.size := by
  obtain ⟨_, h2, row, cells, h3, _⟩ := h
  refine ⟨h2, ?_⟩
  by_cases hlt : a.block < w.heap.size
  · exact hlt
  · have : w.heap[a.block]? = none := Array.getElem?_eq_none (by omega)
    simp [World.shape?, this] at h3
set_option maxRecDepth 100000 in
theorem again_any {H : Type} {enc : TypeId × Value → H} {t : TypeId} (hr : Tryz.prog.readableRec t = true) (hrow : t < Tryz.prog.types.size) {W W' : World} {v : Value} {d : DataW H} {ps : List MemPlace} {sp : Nat → Bool}
    (h : DataW.Trod enc Tryz.prog W 0 (fun _ => true) true t v d ps) (hb : Below W.heap.size W W') (hlt : ∀ x ∈ ps, x.block < W.heap.size) (hsp : ∀ q ∈ ps, sp q.block = true) :
    DataW.Trod enc Tryz.prog W' 0 sp true t v d ps :=
  WideElems.Trod_stays laidOut_ok hr hrow h (fun x hx => hb.same (hlt x hx)) hsp
end Go.Proofs.YtpoblealgooamaaGreatDoor
