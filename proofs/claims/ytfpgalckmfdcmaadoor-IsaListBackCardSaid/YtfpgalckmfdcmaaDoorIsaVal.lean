/- isa.value: a word's number. Conditions: the library's table of powers of ten reads as it is laid. -/
import Derived.Test.YtfpgalckmfdcmaaDoorIsaNum
import Derived.Test.YtfpgalckmfdcmaaDoorIsaTxtP
namespace Go.Proofs.YtfpgalckmfdcmaaDoor
open Go Go.RowKit
/-- a word without its r -/
def deR : List UInt8 → List UInt8
  | [] => []
  | x :: l => if x = 114 then l else x :: l
theorem ext_first (x : UInt8) (l : List UInt8) : ((⟨(x :: l).toArray⟩ : ByteArray).extract 0 1).toList = [x] := by
  rw [Lib.toList_data]
  simp [ByteArray.data_extract]
theorem ext_rest (x : UInt8) (l : List UInt8) : (⟨(x :: l).toArray⟩ : ByteArray).extract 1 (l.length + 1) = ⟨l.toArray⟩ := by
  apply ByteArray.ext
  apply Array.ext'
  simp [ByteArray.data_extract]
theorem ret_s {a b : ByteArray} (h : a = b) : Ending.returned (.string a) = .returned (.string b) := by rw [h]
set_option maxRecDepth 100000 in
set_option maxHeartbeats 2000000 in
theorem trim_any (l : List UInt8) (hl : l.length ≤ 100000) (w : World) :
    Calls Tryd.prog 41 #[.string ⟨l.toArray⟩, .string ⟨#[114]⟩] w fun e w' => e = .returned (.string ⟨(deR l).toArray⟩) ∧ w' = w := by
  cases l with
  | nil =>
    go_enter Tryd.func41, Tryd.ntmps41
    go_wp2
    go_ret
    exact ⟨rfl, rfl⟩
  | cons x l =>
    by_cases hx : x = 114
    · subst hx
      have hq : (((⟨((114 : UInt8) :: l).toArray⟩ : ByteArray).extract 0 1).toList == [114]) = true := by rw [ext_first]; rfl
      have hr := ext_rest 114 l
      have hlen : l.length + 1 ≤ 100000 := hl
      go_enter Tryd.func41, Tryd.ntmps41
      go_wp2
      go_ret
      exact ⟨ret_s (by first | rfl | exact hr), rfl⟩
    · have hq : (((⟨(x :: l).toArray⟩ : ByteArray).extract 0 1).toList == [114]) = false := by rw [ext_first]; simpa using hx
      have hd : deR (x :: l) = x :: l := by show (if x = 114 then l else x :: l) = _; rw [if_neg hx]
      have hlen : l.length + 1 ≤ 100000 := hl
      rw [hd]
      go_enter Tryd.func41, Tryd.ntmps41
      go_wp2
      go_ret
      exact ⟨rfl, rfl⟩
set_option maxHeartbeats 2000000 in
theorem isval_any (l : List UInt8) (hl : l.length ≤ 100000) (w : World) (ht : Tab w) :
    Calls Tryd.prog 25 #[.string ⟨l.toArray⟩] w fun e w' => (∃ r : Int, e = .returned (.int .i64 r) ∧ -9223372036854775808 ≤ r ∧ r ≤ 9223372036854775807 ∧ ∀ n, fits n → Lib.itoa n = deR l → r = n) ∧ Below w.heap.size w w' := by
  have hdl : (deR l).length ≤ 100000 := by
    cases l with
    | nil => simp [deR]
    | cons x l =>
      show (if x = 114 then l else x :: l).length ≤ _
      rw [List.length_cons] at hl
      split
      · omega
      · rw [List.length_cons]; omega
  have hsz : (⟨(deR l).toArray⟩ : ByteArray).size ≤ 140737488351232 := by show (deR l).toArray.size ≤ _; rw [List.size_toArray]; omega
  have HT := Lib.hid ht
  have HS := Lib.hid hsz
  clear ht hdl hsz
  by_cases h : ∃ n, Dec ⟨(deR l).toArray⟩ n
  · obtain ⟨n, hn⟩ := h
    have hf := hn.1
    unfold fits at hf
    have HN := Lib.hid hn
    go_enter Tryd.func25, Tryd.ntmps25
    go_wp2_with fail
    refine (trim_any l hl _).mono ?_
    rintro e w1 ⟨rfl, hw1⟩
    subst w1
    go_wp2_with fail
    refine (parse_yes _ n HN.out _ HT.out HS.out).mono ?_
    rintro e w2 ⟨rfl, hb⟩
    have HB := Lib.hid hb
    clear hb
    go_wp2_with fail
    go_ret
    exact ⟨⟨n, rfl, by omega, by omega, fun m hm he => itoa_inj (HN.out.2.trans he.symm)⟩, HB.out⟩
  · have hno : NotS ⟨(deR l).toArray⟩ := fun n hn he => h ⟨n, hn, he⟩
    have HN := Lib.hid hno
    clear h hno
    go_enter Tryd.func25, Tryd.ntmps25
    go_wp2_with fail
    refine (trim_any l hl _).mono ?_
    rintro e w1 ⟨rfl, hw1⟩
    subst w1
    go_wp2_with fail
    refine (parse_no _ HN.out _ HT.out HS.out).mono ?_
    rintro e w2 ⟨rfl, hb⟩
    unfold ErrNo
    have HB := Lib.hid hb
    clear hb
    go_wp2_with fail
    go_ret
    exact ⟨⟨0, rfl, by decide, by decide, fun m hm he => (HN.out m hm he).elim⟩, HB.out⟩
end Go.Proofs.YtfpgalckmfdcmaaDoor
