/- Texts of integers as the reference writes them. Conditions: none. -/
import Derived.Test.YtfpgalckmfdcmaaDoorTextM
import Derived.Test.YtfpgalckmfdcmaaDoorProg
import Derived.Lib.Hide
import Derived.Below
import Derived.WalkKit
import Derived.WalkMore
import Derived.IntWalk
import Derived.Laws.IdiomStrings
namespace Go.Proofs.YtfpgalckmfdcmaaDoor
open Go Go.RowKit
/-- one byte as a text -/
theorem run_one (W : World) (d : Int) : (convert 56 9 (.slice (some ⟨W.heap.size, 0, none⟩) 1 1)).run Tryd.prog (W.alloc (.cells #[.int .u8 d] 5)) = .ok (.string ⟨#[UInt8.ofNat d.toNat]⟩) (W.alloc (.cells #[.int .u8 d] 5)) := by
  rw [run_convert_bytes_string _ _ _ _ _ _ _ Tryd.underlying56 Tryd.underlying5 Tryd.underlying9]
  have hl := run_loadCells_list (P := Tryd.prog) (W.alloc (.cells #[.int .u8 d] 5)) ⟨W.heap.size, 0, none⟩ ([d].map (Value.int .u8)) (fun j v hj => by
    cases j with
    | zero =>
      have hj' : some (Value.int .u8 d) = some v := hj
      rw [← hj']
      exact World.cell?_alloc_mark W #[.int .u8 d] 5 (0, 0) 0
    | succ j => simp at hj)
  simp only [List.map_cons, List.map_nil, List.length_cons, List.length_nil] at hl
  rw [run_bytesToString _ _ 1 1 [d] hl]
  rfl
theorem lastDig_neg {left : Int} (h : left.tmod 10 < 0) : UInt8.ofNat (48 + -left.tmod 10).toNat = lastDig left := by
  unfold lastDig; congr 1; omega
theorem lastDig_pos {left : Int} (h : 0 ≤ left.tmod 10) : UInt8.ofNat (48 + left.tmod 10).toNat = lastDig left := by
  unfold lastDig; congr 1; omega
theorem text_end_neg {n : Int} {acc : List UInt8} (hn : n < 0) (h : Wrote n 0 acc) (hc : acc ≠ []) : Ending.returned (.string (⟨#[45]⟩ ++ ⟨acc.toArray⟩)) = .returned (.string ⟨(Lib.itoa n).toArray⟩) := by
  rw [cat1, itoa_abs_neg hn, wrote_end h hc]
theorem text_end_pos {n : Int} {acc : List UInt8} (hn : ¬ n < 0) (h : Wrote n 0 acc) (hc : acc ≠ []) : Ending.returned (.string ⟨acc.toArray⟩) = .returned (.string ⟨(Lib.itoa n).toArray⟩) := by
  rw [itoa_abs_pos (by omega), wrote_end h hc]
def emptyN : Value → Nat
  | .string b => if b.data.toList = [] then 1 else 0
  | _ => 0
theorem emptyN_nil : emptyN (.string ⟨#[]⟩) = 1 := rfl
theorem emptyN_cons (c : UInt8) (b : ByteArray) : emptyN (.string (⟨#[c]⟩ ++ b)) = 0 := by simp [emptyN, ByteArray.data_append]
set_option maxHeartbeats 1000000 in
theorem reftext_any (n : Int) (h0 : -9223372036854775808 ≤ n) (h1 : n ≤ 9223372036854775807) (w : World) :
    Calls Tryd.prog 31 #[.int .i64 n] w fun e w' => e = .returned (.string ⟨(Lib.itoa n).toArray⟩) ∧ Below w.heap.size w w' := by
  go_enter Tryd.func31, Tryd.ntmps31
  go_wp2
  go_loopw [3, 4, 5] (fun s l _ wr => ∃ (acc : List UInt8) (left : Int), s = .string ⟨acc.toArray⟩ ∧ l = .int .i64 left ∧ -9223372036854775808 ≤ left ∧ left ≤ 9223372036854775807 ∧ Wrote n left acc ∧ Below w.heap.size w wr)
    (fun s l _ _ => (intOf l).natAbs + emptyN s)
  case atStart => exact ⟨[], n, rfl, rfl, h0, h1, .inl ⟨rfl, rfl⟩, Below.refl _ _⟩
  case round =>
    obtain ⟨acc, left, rfl, rfl, hl0, hl1, hW, hB⟩ := hrel
    have hlen := wrote_len hW h0 h1
    have HW := Lib.hid hW
    clear hW
    have hcv := run_one wr
    obtain ⟨ht0, ht1⟩ := tmod_bd left
    have hq : (left.tdiv 10).natAbs = left.natAbs / 10 := Int.natAbs_tdiv left 10
    have HQ := Lib.hid hq
    have hq0 : -9223372036854775808 ≤ left.tdiv 10 := by omega
    have hq1 : left.tdiv 10 ≤ 9223372036854775807 := by omega
    clear hq
    by_cases hz : left = 0
    · subst hz
      by_cases he : acc = []
      · subst he
        go_wp2
        go_roundw
        case rel => exact ⟨[48], 0, by rw [cat1], rfl, by omega, by omega, wrote_step HW.out (.inr rfl), hB.alloc hB.size _⟩
        case measure => rw [emptyN_cons, emptyN_nil]; simp
      · have he2 : acc.isEmpty = false := by simpa using he
        have HX := Lib.hid he
        clear he
        by_cases hn : n < 0
        · go_wp2
          go_ret
          exact ⟨text_end_neg hn HW.out HX.out, hB⟩
        · go_wp2
          go_ret
          exact ⟨text_end_pos (by omega) HW.out HX.out, hB⟩
    · have hz1 : (left != 0) = true := by simpa using hz
      have HZ := Lib.hid hz
      by_cases hm : left.tmod 10 < 0
      · go_wp2
        go_roundw
        case rel => exact ⟨lastDig left :: acc, left.tdiv 10, by rw [cat1, lastDig_neg hm], rfl, by omega, by omega, wrote_step HW.out (.inl HZ.out), hB.alloc hB.size _⟩
        case measure =>
          rw [emptyN_cons]
          have h1 := HQ.out
          have h2 := HZ.out
          show (left.tdiv 10).natAbs + 0 < left.natAbs + emptyN (.string ⟨acc.toArray⟩)
          omega
      · go_wp2
        go_roundw
        case rel => exact ⟨lastDig left :: acc, left.tdiv 10, by rw [cat1, lastDig_pos (by omega)], rfl, by omega, by omega, wrote_step HW.out (.inl HZ.out), hB.alloc hB.size _⟩
        case measure =>
          rw [emptyN_cons]
          have h1 := HQ.out
          have h2 := HZ.out
          show (left.tdiv 10).natAbs + 0 < left.natAbs + emptyN (.string ⟨acc.toArray⟩)
          omega
end Go.Proofs.YtfpgalckmfdcmaaDoor
