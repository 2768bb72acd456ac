/- isa.Parse, up to its loop. Conditions: the library's tables and bound read as they are laid. -/
import Derived.Test.YtfpgalckmfdcmaaDoorIsaVal
import Derived.Test.YtfpgalckmfdcmaaDoorIsaSplit
namespace Go.Proofs.YtfpgalckmfdcmaaDoor
open Go Go.RowKit
theorem ixp4 (a b c n : Addr) (W : World) : (Instr.index 52 (.agg #[.pointer (some a), .pointer (some b), .pointer (some c), .pointer (some n)]) (.int .i64 0)).run Tryd.prog W = .ok (.pointer (some a)) W ∧
    (Instr.index 52 (.agg #[.pointer (some a), .pointer (some b), .pointer (some c), .pointer (some n)]) (.int .i64 1)).run Tryd.prog W = .ok (.pointer (some b)) W ∧
    (Instr.index 52 (.agg #[.pointer (some a), .pointer (some b), .pointer (some c), .pointer (some n)]) (.int .i64 2)).run Tryd.prog W = .ok (.pointer (some c)) W ∧
    (Instr.index 52 (.agg #[.pointer (some a), .pointer (some b), .pointer (some c), .pointer (some n)]) (.int .i64 3)).run Tryd.prog W = .ok (.pointer (some n)) W := ⟨by kernel_rfl, by kernel_rfl, by kernel_rfl, by kernel_rfl⟩
/-- a text as the words that strings.Split answers -/
theorem word_cells (s : ByteArray) (w : World) : ∀ t l, (splitS s.data.toList)[t]? = some l → (w.alloc (.cells ((Lib.splitB ⟨#[32]⟩ 0 (Lib.countB s ⟨#[32]⟩) s).map Value.string).toArray 9)).cell? ⟨w.heap.size, t, none⟩ = some (.string ⟨l.toArray⟩) := by
  intro t l h
  rw [← split_words, List.getElem?_map] at h
  cases q : (Lib.splitB ⟨#[32]⟩ 0 (Lib.countB s ⟨#[32]⟩) s)[t]? with
  | none => rw [q] at h; cases h
  | some b =>
    rw [q] at h
    have e : b.data.toList = l := Option.some.inj h
    have hb : (⟨l.toArray⟩ : ByteArray) = b := by rw [← e]
    have h2 : ((Lib.splitB ⟨#[32]⟩ 0 (Lib.countB s ⟨#[32]⟩) s).map Value.string)[t]? = some (.string b) := by rw [List.getElem?_map, q]; rfl
    have h3 := World.cell?_alloc_mark w ((Lib.splitB ⟨#[32]⟩ 0 (Lib.countB s ⟨#[32]⟩) s).map Value.string).toArray 9 (0, 0) t
    rw [hb]
    rw [List.getElem?_toArray, h2] at h3
    exact h3
end Go.Proofs.YtfpgalckmfdcmaaDoor
