/- num.value and num.Parse in isa's seat. Conditions: the text is no longer than the reach; the library's table of powers of ten reads as it is laid. -/
import Derived.Test.YtfpgalckmfdcmaaDoorTextM
import Derived.Test.YtfpgalckmfdcmaaDoorIsaText
import Derived.WalkMore
import Derived.Laws.IdiomStrings
namespace Go.Proofs.YtfpgalckmfdcmaaDoor
open Go Go.RowKit
set_option maxHeartbeats 400000 in
theorem fit_any (n : Int) (w : World) :
    Calls Tryd.prog 50 #[.int .i64 n] w fun e w' => e = .returned (.bool (fitB n)) ∧ w = w' := by
  by_cases h : -4611686018427387904 ≤ n
  · go_enter Tryd.func50, Tryd.ntmps50
    go_wp2
    go_ret
    exact ⟨ret_bool (by unfold fitB; simp [h]), rfl⟩
  · have hd : decide (-4611686018427387904 ≤ n) = false := by simpa using h
    go_enter Tryd.func50, Tryd.ntmps50
    go_wp2
    go_ret
    exact ⟨ret_bool (by unfold fitB; symm; rw [decide_eq_false_iff_not]; omega), rfl⟩
/-- what the walk of num.value knows at index k: if the text is the numeral of an integer, its first k bytes have been read right -/
def ReadS (s : ByteArray) (k : Nat) (x sg : Int) : Prop := ∀ n, fits n → Lib.itoa n = s.data.toList → Read n k x sg
def RightS (s : ByteArray) (r : Int) : Prop := ∀ n, fits n → Lib.itoa n = s.data.toList → r = n
def NotS (s : ByteArray) : Prop := ∀ n, fits n → Lib.itoa n ≠ s.data.toList
theorem at_eq {s : ByteArray} {n : Int} (he : Lib.itoa n = s.data.toList) {k : Nat} (h : k < s.size) (h' : k < (Lib.itoa n).length) : (Lib.itoa n)[k] = s[k] := by simp only [he]; rfl
theorem len_eq {s : ByteArray} {n : Int} (he : Lib.itoa n = s.data.toList) : (Lib.itoa n).length = s.size := by rw [he]; simp
theorem readS_digit {s : ByteArray} {k : Nat} {x sg : Int} (h : k < s.size) (hd : 48 ≤ ((s[k]).toNat : Int) ∧ ((s[k]).toNat : Int) ≤ 57) (hR : ReadS s k x sg) : ReadS s (k + 1) (wrap64 (wrap64 (x * 10) + (((s[k]).toNat : Int) - 48))) sg := by
  intro n hf he
  have hl : k < (Lib.itoa n).length := by rw [len_eq he]; exact h
  have e := at_eq he h hl
  have r := hR n hf he
  have r2 := read_digit r hl (by unfold isDig; rw [e]; omega)
  rw [e] at r2
  have b1 := read_bd hf r
  have b2 := read_bd hf r2
  have e1 : wrap64 (x * 10) = x * 10 := by unfold wrap64; omega
  have e2 : wrap64 (x * 10 + (((s[k]).toNat : Int) - 48)) = x * 10 + (((s[k]).toNat : Int) - 48) := by unfold wrap64; omega
  rw [e1, e2]
  exact r2
theorem readS_minus {s : ByteArray} {x sg : Int} (h : 0 < s.size) (hd : ((s[0]).toNat : Int) = 45) (hR : ReadS s 0 x sg) : ReadS s 1 x (-1) := by
  intro n hf he
  have hl : 0 < (Lib.itoa n).length := by rw [len_eq he]; exact h
  have e := at_eq he h hl
  exact read_minus (hR n hf he) hl (by rw [e]; apply UInt8.toNat_inj.1; have : (45 : UInt8).toNat = 45 := rfl; omega)
theorem notS_other {s : ByteArray} {k : Nat} (h : k < s.size) (hd : ¬ (48 ≤ ((s[k]).toNat : Int) ∧ ((s[k]).toNat : Int) ≤ 57)) (h2 : ¬ (((s[k]).toNat : Int) = 45 ∧ k = 0)) : NotS s := by
  intro n hf he
  have hl : k < (Lib.itoa n).length := by rw [len_eq he]; exact h
  have e := at_eq he h hl
  obtain ⟨h3, h4⟩ := read_other hl (by unfold isDig; rw [e]; omega)
  rw [e] at h4
  exact h2 ⟨by rw [h4]; rfl, h3⟩
theorem rightS_not {s : ByteArray} (h : NotS s) (r : Int) : RightS s r := fun n hf he => (h n hf he).elim
theorem rightS_end {s : ByteArray} {x sg : Int} (hR : ReadS s s.size x sg) : RightS s (wrap64 (sg * x)) := by
  intro n hf he
  have r := hR n hf he
  rw [← len_eq he] at r
  have e := (read_end r).1
  unfold fits at hf
  rw [e]; unfold wrap64; omega
theorem wrap64_bd (n : Int) : -9223372036854775808 ≤ wrap64 n ∧ wrap64 n ≤ 9223372036854775807 := by unfold wrap64; omega
def ValueOut (s : ByteArray) (e : Ending) : Prop := ∃ r : Int, e = .returned (.int .i64 r) ∧ -9223372036854775808 ≤ r ∧ r ≤ 9223372036854775807 ∧ RightS s r
theorem valueOut_mk {s : ByteArray} {r : Int} (h : RightS s (wrap64 r)) : ValueOut s (.returned (.int .i64 (wrap64 r))) := ⟨_, rfl, (wrap64_bd r).1, (wrap64_bd r).2, h⟩
set_option maxHeartbeats 1000000 in
theorem value_any (s : ByteArray) (w : World) (hs : s.size ≤ 140737488351232) :
    Calls Tryd.prog 49 #[.string s] w fun e w' => ValueOut s e ∧ w = w' := by
  go_enter Tryd.func49, Tryd.ntmps49
  go_wp2
  go_step3
  go_wp2
  go_step3
  go_wp2
  go_loop [3, 4, 9] (fun x g i => ∃ (k : Nat) (a b : Int), k ≤ s.size ∧ i = .int .i64 k ∧ x = .int .i64 a ∧ g = .int .i64 b ∧ ReadS s k a b) (fun _ _ i => s.size - (intOf i).toNat)
  case atStart => exact ⟨0, 0, 1, by omega, rfl, rfl, rfl, fun n _ _ => read_start n⟩
  case round =>
    obtain ⟨k, a, b, hk, rfl, rfl, rfl, hR⟩ := hrel
    have HR := Lib.hid hR
    clear hR
    by_cases hlt : k < s.size
    · by_cases hd : 48 ≤ ((s[k]).toNat : Int) ∧ ((s[k]).toNat : Int) ≤ 57
      · have HD := Lib.hid hd
        obtain ⟨hd1, hd2⟩ := hd
        go_wp2
        go_round
        case rel => exact ⟨k + 1, _, _, by omega, by go_num, rfl, rfl, readS_digit hlt HD.out HR.out⟩
        case measure => simp [intOf]; omega
      · by_cases h2 : ((s[k]).toNat : Int) = 45 ∧ k = 0
        · obtain ⟨h3, rfl⟩ := h2
          have H3 := Lib.hid h3
          have h4 : ((s[0]).toNat : Int) < 48 := by omega
          have h5 : decide (48 ≤ ((s[0]).toNat : Int)) = false := by rw [decide_eq_false_iff_not]; omega
          have h6 : (((s[0]).toNat : Int) == 45) = true := by rw [h3]; rfl
          clear h3 hd
          go_wp2
          go_round
          case rel => exact ⟨1, _, _, by omega, rfl, rfl, rfl, readS_minus hlt H3.out HR.out⟩
          case measure => simp [intOf]; omega
        · have HN := Lib.hid (notS_other hlt hd h2)
          by_cases hc : ((s[k]).toNat : Int) = 45
          · have hk0 : ((k : Int) == 0) = false := by
              have hk1 : k ≠ 0 := fun e => h2 ⟨hc, e⟩
              simpa using hk1
            have h4 : ((s[k]).toNat : Int) < 48 := by omega
            have h6 : (((s[k]).toNat : Int) == 45) = true := by rw [hc]; rfl
            clear hc hd h2
            go_wp2
            go_ret
            exact ⟨valueOut_mk (rightS_not HN.out _), rfl⟩
          · clear h2
            go_wp2
            all_goals
              go_ret
              exact ⟨valueOut_mk (rightS_not HN.out _), rfl⟩
    · obtain rfl : k = s.size := by omega
      go_wp2
      go_ret
      exact ⟨valueOut_mk (rightS_end HR.out), rfl⟩
/-- num.Parse at the numeral of an integer -/
def Dec (s : ByteArray) (n : Int) : Prop := fits n ∧ Lib.itoa n = s.data.toList
set_option maxHeartbeats 1000000 in
theorem parse_yes (s : ByteArray) (n : Int) (hn : Dec s n) (w : World) (ht : Tab w) (hs : s.size ≤ 140737488351232) :
    Calls Tryd.prog 40 #[.string s] w fun e w' => e = .returned (.tuple #[.int .i64 n, .int .i64 0]) ∧ Below w.heap.size w w' := by
  have HT := Lib.hid ht
  have HN := Lib.hid hn
  have HF : Hid (fitB n = true) := by unfold fitB; rw [decide_eq_true_eq]; exact hn.1
  obtain ⟨⟨hf0, hf1⟩, he⟩ := hn
  have HE := Lib.hid he
  clear ht he
  go_enter Tryd.func40, Tryd.ntmps40
  go_wp2_with fail
  refine (value_any _ _ hs).mono ?_
  rintro e w' ⟨⟨r, rfl, hr0, hr1, hR⟩, rfl⟩
  obtain rfl : r = n := hR n HN.out.1 HN.out.2
  clear hR
  go_wp2_with fail
  refine (fit_any _ _).mono ?_
  rintro e w' ⟨rfl, rfl⟩
  have hfit : fitB r = true := HF.out
  go_wp2_with fail
  refine (text_any r hr0 hr1 _ HT.out).mono ?_
  rintro e w1 ⟨rfl, hb⟩
  have hq : (Lib.itoa r == s.toList) = true := by rw [Lib.toList_data, HE.out]; simp
  go_wp2_with fail
  go_ret2
  exact ⟨rfl, hb⟩
def ErrNo : Ending := .returned (.tuple #[.int .i64 0, .int .i64 11])
set_option maxHeartbeats 1000000 in
theorem parse_no (s : ByteArray) (hn : NotS s) (w : World) (ht : Tab w) (hs : s.size ≤ 140737488351232) :
    Calls Tryd.prog 40 #[.string s] w fun e w' => e = ErrNo ∧ Below w.heap.size w w' := by
  have HT := Lib.hid ht
  have HN := Lib.hid hn
  clear ht hn
  go_enter Tryd.func40, Tryd.ntmps40
  go_wp2_with fail
  refine (value_any _ _ hs).mono ?_
  rintro e w' ⟨⟨r, rfl, hr0, hr1, hR⟩, rfl⟩
  clear hR
  cases hfit : fitB r
  · go_wp2_with fail
    refine (fit_any _ _).mono ?_
    rintro e w' ⟨rfl, rfl⟩
    go_wp2_with fail
    go_ret2
    exact ⟨rfl, Below.refl _ _⟩
  · have hq : (Lib.itoa r == s.toList) = false := by
      have hf : fits r := by unfold fitB at hfit; rw [decide_eq_true_eq] at hfit; exact hfit
      have := HN.out r hf
      rw [Lib.toList_data]
      simpa using this
    go_wp2_with fail
    refine (fit_any _ _).mono ?_
    rintro e w' ⟨rfl, rfl⟩
    go_wp2_with fail
    refine (text_any r hr0 hr1 _ HT.out).mono ?_
    rintro e w1 ⟨rfl, hb⟩
    go_wp2_with fail
    go_ret2
    exact ⟨rfl, hb⟩
end Go.Proofs.YtfpgalckmfdcmaaDoor
