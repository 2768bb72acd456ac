/- Contracts of texts as numbers: num.value, num.Parse and the reference's Text and Parse. Conditions: the text is no longer than the reach; the library's table of powers of ten reads as it is laid. -/
import Derived.Test.YtphhokpbkcdljaaDoorTextM
import Derived.Test.YtphhokpbkcdljaaDoorKnown
import Derived.WalkMore
import Derived.Laws.IdiomStrings
namespace Go.Proofs.YtphhokpbkcdljaaDoor
open Go Go.RowKit
/-- what the walk of num.value knows at index k: if the text is the numeral of an integer, its first k bytes have been read right -/
def ReadS (s : ByteArray) (k : Nat) (x sg : Int) : Prop := ∀ n, fits n → Lib.itoa n = s.data.toList → Read n k x sg
def RightS (s : ByteArray) (r : Int) : Prop := ∀ n, fits n → Lib.itoa n = s.data.toList → r = n
def NotS (s : ByteArray) : Prop := ∀ n, fits n → Lib.itoa n ≠ s.data.toList
theorem at_eq {s : ByteArray} {n : Int} (he : Lib.itoa n = s.data.toList) {k : Nat} (h : k < s.size) (h' : k < (Lib.itoa n).length) : (Lib.itoa n)[k] = s[k] := by simp only [he]; rfl
theorem len_eq {s : ByteArray} {n : Int} (he : Lib.itoa n = s.data.toList) : (Lib.itoa n).length = s.size := by rw [he]; simp
theorem readS_digit {s : ByteArray} {k : Nat} {x sg : Int} (h : k < s.size) (hd : 48 ≤ ((s[k]).toNat : Int) ∧ ((s[k]).toNat : Int) ≤ 57) (hR : ReadS s k x sg) : ReadS s (k + 1) (wrap64 (wrap64 (x * 10) + (((s[k]).toNat : Int) - 48))) sg := by
  intro n hf he
  have hl : k < (Lib.itoa n).length := by rw [len_eq he]; exact h
  have e := at_eq he h hl
  have r := hR n hf he
  have r2 := read_digit r hl (by unfold isDig; rw [e]; omega)
  rw [e] at r2
  have b1 := read_bd hf r
  have b2 := read_bd hf r2
  have e1 : wrap64 (x * 10) = x * 10 := by unfold wrap64; omega
  have e2 : wrap64 (x * 10 + (((s[k]).toNat : Int) - 48)) = x * 10 + (((s[k]).toNat : Int) - 48) := by unfold wrap64; omega
  rw [e1, e2]
  exact r2
theorem readS_minus {s : ByteArray} {x sg : Int} (h : 0 < s.size) (hd : ((s[0]).toNat : Int) = 45) (hR : ReadS s 0 x sg) : ReadS s 1 x (-1) := by
  intro n hf he
  have hl : 0 < (Lib.itoa n).length := by rw [len_eq he]; exact h
  have e := at_eq he h hl
  exact read_minus (hR n hf he) hl (by rw [e]; apply UInt8.toNat_inj.1; have : (45 : UInt8).toNat = 45 := rfl; omega)
theorem notS_other {s : ByteArray} {k : Nat} (h : k < s.size) (hd : ¬ (48 ≤ ((s[k]).toNat : Int) ∧ ((s[k]).toNat : Int) ≤ 57)) (h2 : ¬ (((s[k]).toNat : Int) = 45 ∧ k = 0)) : NotS s := by
  intro n hf he
  have hl : k < (Lib.itoa n).length := by rw [len_eq he]; exact h
  have e := at_eq he h hl
  obtain ⟨h3, h4⟩ := read_other hl (by unfold isDig; rw [e]; omega)
  rw [e] at h4
  exact h2 ⟨by rw [h4]; rfl, h3⟩
theorem rightS_not {s : ByteArray} (h : NotS s) (r : Int) : RightS s r := fun n hf he => (h n hf he).elim
theorem rightS_end {s : ByteArray} {x sg : Int} (hR : ReadS s s.size x sg) : RightS s (wrap64 (sg * x)) := by
  intro n hf he
  have r := hR n hf he
  rw [← len_eq he] at r
  have e := (read_end r).1
  unfold fits at hf
  rw [e]; unfold wrap64; omega
theorem wrap64_bd (n : Int) : -9223372036854775808 ≤ wrap64 n ∧ wrap64 n ≤ 9223372036854775807 := by unfold wrap64; omega
def ValueOut (s : ByteArray) (e : Ending) : Prop := ∃ r : Int, e = .returned (.int .i64 r) ∧ -9223372036854775808 ≤ r ∧ r ≤ 9223372036854775807 ∧ RightS s r
theorem valueOut_mk {s : ByteArray} {r : Int} (h : RightS s (wrap64 r)) : ValueOut s (.returned (.int .i64 (wrap64 r))) := ⟨_, rfl, (wrap64_bd r).1, (wrap64_bd r).2, h⟩
/-- num.Parse at the numeral of an integer -/
def Dec (s : ByteArray) (n : Int) : Prop := fits n ∧ Lib.itoa n = s.data.toList
def ErrNo : Ending := .returned (.tuple #[.int .i64 0, .int .i64 11])
/-- one byte as a text -/
theorem run_one (W : World) (d : Int) : (convert 30 9 (.slice (some ⟨W.heap.size, 0, none⟩) 1 1)).run Tryd.prog (W.alloc (.cells #[.int .u8 d] 5)) = .ok (.string ⟨#[UInt8.ofNat d.toNat]⟩) (W.alloc (.cells #[.int .u8 d] 5)) := by
  rw [run_convert_bytes_string _ _ _ _ _ _ _ Tryd.underlying30 Tryd.underlying5 Tryd.underlying9]
  have hl := run_loadCells_list (P := Tryd.prog) (W.alloc (.cells #[.int .u8 d] 5)) ⟨W.heap.size, 0, none⟩ ([d].map (Value.int .u8)) (fun j v hj => by
    cases j with
    | zero =>
      have hj' : some (Value.int .u8 d) = some v := hj
      rw [← hj']
      exact World.cell?_alloc_mark W #[.int .u8 d] 5 (0, 0) 0
    | succ j => simp at hj)
  simp only [List.map_cons, List.map_nil, List.length_cons, List.length_nil] at hl
  rw [run_bytesToString _ _ 1 1 [d] hl]
  rfl
theorem lastDig_neg {left : Int} (h : left.tmod 10 < 0) : UInt8.ofNat (48 + -left.tmod 10).toNat = lastDig left := by
  unfold lastDig; congr 1; omega
theorem lastDig_pos {left : Int} (h : 0 ≤ left.tmod 10) : UInt8.ofNat (48 + left.tmod 10).toNat = lastDig left := by
  unfold lastDig; congr 1; omega
theorem text_end_neg {n : Int} {acc : List UInt8} (hn : n < 0) (h : Wrote n 0 acc) (hc : acc ≠ []) : Ending.returned (.string (⟨#[45]⟩ ++ ⟨acc.toArray⟩)) = .returned (.string ⟨(Lib.itoa n).toArray⟩) := by
  rw [cat1, itoa_abs_neg hn, wrote_end h hc]
theorem text_end_pos {n : Int} {acc : List UInt8} (hn : ¬ n < 0) (h : Wrote n 0 acc) (hc : acc ≠ []) : Ending.returned (.string ⟨acc.toArray⟩) = .returned (.string ⟨(Lib.itoa n).toArray⟩) := by
  rw [itoa_abs_pos (by omega), wrote_end h hc]
def emptyN : Value → Nat
  | .string b => if b.data.toList = [] then 1 else 0
  | _ => 0
theorem emptyN_nil : emptyN (.string ⟨#[]⟩) = 1 := rfl
theorem emptyN_cons (c : UInt8) (b : ByteArray) : emptyN (.string (⟨#[c]⟩ ++ b)) = 0 := by simp [emptyN, ByteArray.data_append]
set_option maxHeartbeats 1000000 in
theorem reftext_any (n : Int) (h0 : -9223372036854775808 ≤ n) (h1 : n ≤ 9223372036854775807) (w : World) :
    Calls Tryd.prog 56 #[.int .i64 n] w fun e w' => e = .returned (.string ⟨(Lib.itoa n).toArray⟩) ∧ Below w.heap.size w w' := by
  go_enter Tryd.func56, Tryd.ntmps56
  go_wp2
  go_loopw [3, 4, 5] (fun s l _ wr => ∃ (acc : List UInt8) (left : Int), s = .string ⟨acc.toArray⟩ ∧ l = .int .i64 left ∧ -9223372036854775808 ≤ left ∧ left ≤ 9223372036854775807 ∧ Wrote n left acc ∧ Below w.heap.size w wr)
    (fun s l _ _ => (intOf l).natAbs + emptyN s)
  case atStart => exact ⟨[], n, rfl, rfl, h0, h1, .inl ⟨rfl, rfl⟩, Below.refl _ _⟩
  case round =>
    obtain ⟨acc, left, rfl, rfl, hl0, hl1, hW, hB⟩ := hrel
    have hlen := wrote_len hW h0 h1
    have HW := Lib.hid hW
    clear hW
    have hcv := run_one wr
    obtain ⟨ht0, ht1⟩ := tmod_bd left
    have hq : (left.tdiv 10).natAbs = left.natAbs / 10 := Int.natAbs_tdiv left 10
    have HQ := Lib.hid hq
    have hq0 : -9223372036854775808 ≤ left.tdiv 10 := by omega
    have hq1 : left.tdiv 10 ≤ 9223372036854775807 := by omega
    clear hq
    by_cases hz : left = 0
    · subst hz
      by_cases he : acc = []
      · subst he
        go_wp2
        go_roundw
        case rel => exact ⟨[48], 0, by rw [cat1], rfl, by omega, by omega, wrote_step HW.out (.inr rfl), hB.alloc hB.size _⟩
        case measure => rw [emptyN_cons, emptyN_nil]; simp
      · have he2 : acc.isEmpty = false := by simpa using he
        have HX := Lib.hid he
        clear he
        by_cases hn : n < 0
        · go_wp2
          go_ret
          exact ⟨text_end_neg hn HW.out HX.out, hB⟩
        · go_wp2
          go_ret
          exact ⟨text_end_pos (by omega) HW.out HX.out, hB⟩
    · have hz1 : (left != 0) = true := by simpa using hz
      have HZ := Lib.hid hz
      by_cases hm : left.tmod 10 < 0
      · go_wp2
        go_roundw
        case rel => exact ⟨lastDig left :: acc, left.tdiv 10, by rw [cat1, lastDig_neg hm], rfl, by omega, by omega, wrote_step HW.out (.inl HZ.out), hB.alloc hB.size _⟩
        case measure =>
          rw [emptyN_cons]
          have h1 := HQ.out
          have h2 := HZ.out
          show (left.tdiv 10).natAbs + 0 < left.natAbs + emptyN (.string ⟨acc.toArray⟩)
          omega
      · go_wp2
        go_roundw
        case rel => exact ⟨lastDig left :: acc, left.tdiv 10, by rw [cat1, lastDig_pos (by omega)], rfl, by omega, by omega, wrote_step HW.out (.inl HZ.out), hB.alloc hB.size _⟩
        case measure =>
          rw [emptyN_cons]
          have h1 := HQ.out
          have h2 := HZ.out
          show (left.tdiv 10).natAbs + 0 < left.natAbs + emptyN (.string ⟨acc.toArray⟩)
          omega
end Go.Proofs.YtphhokpbkcdljaaDoor
