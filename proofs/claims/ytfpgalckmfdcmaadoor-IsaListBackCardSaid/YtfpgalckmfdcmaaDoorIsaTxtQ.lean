/- Contracts of the reference's Parse of numbers in isa's seat. Conditions: the text is no longer than the reach. -/
import Derived.Test.YtfpgalckmfdcmaaDoorIsaTxtP
import Derived.Test.YtfpgalckmfdcmaaDoorIsaTxtN
import Derived.Test.YtfpgalckmfdcmaaDoorIsaInj
namespace Go.Proofs.YtfpgalckmfdcmaaDoor
open Go Go.RowKit
theorem no_len {s : ByteArray} (h : 20 < s.size) : NotS s := by
  intro n hf he
  have e := len_eq he
  unfold fits at hf
  have hp : (10 : Nat) ^ 19 = 10000000000000000000 := by decide
  by_cases h0 : 0 ≤ n
  · rw [itoa_pos h0] at e
    have := dec_len 19 n.toNat (by decide) (by omega)
    omega
  · rw [itoa_neg' (by omega)] at e
    have := dec_len 19 n.natAbs (by decide) (by omega)
    simp at e; omega
/-- the bound that the reference asks ahead of a further digit -/
theorem bound_eq (d : Int) (_h0 : 0 ≤ d) (h1 : d ≤ 9) : (-4611686018427387904 + d).tdiv 10 = -((4611686018427387904 - d) / 10) := by
  have e : -4611686018427387904 + d = -(4611686018427387904 - d) := by omega
  rw [e, Int.neg_tdiv, Int.tdiv_eq_ediv_of_nonneg (by omega)]
theorem step_bd {a d : Int} (h : (0 ≤ d ∧ d ≤ 9) ∧ (-4611686018427387904 + d).tdiv 10 ≤ a) (ha : a ≤ 0) : -4611686018427387904 ≤ wrap64 (wrap64 (10 * a) - d) ∧ wrap64 (wrap64 (10 * a) - d) ≤ 0 := by
  obtain ⟨⟨h0, h1⟩, h2⟩ := h
  rw [bound_eq d h0 h1] at h2
  have h3 : -4611686018427387904 ≤ 10 * a - d := by omega
  have e1 : wrap64 (10 * a) = 10 * a := by unfold wrap64; omega
  have e2 : wrap64 (10 * a - d) = 10 * a - d := by unfold wrap64; omega
  rw [e1, e2]; omega
theorem rel_no {s : ByteArray} {k : Nat} {a d : Int} (hlt : k < s.size) (h : (0 ≤ d ∧ d ≤ 9) ∧ (-4611686018427387904 + d).tdiv 10 ≤ a) (ha : a ≤ 0) :
    ∃ (k_1 : Nat) (a_1 : Int), k_1 ≤ s.size ∧ Value.int .i64 ((k : Int) + 1) = Value.int .i64 (k_1 : Int) ∧ Value.int .i64 (wrap64 (wrap64 (10 * a) - d)) = Value.int .i64 a_1 ∧ -4611686018427387904 ≤ a_1 ∧ a_1 ≤ 0 :=
  ⟨k + 1, _, hlt, by simp, rfl, step_bd h ha⟩
theorem meas_up {s : ByteArray} {k : Nat} (hlt : k < s.size) : s.size - (intOf (Value.int .i64 ((k : Int) + 1))).toNat < s.size - (intOf (Value.int .i64 (k : Int))).toNat := by
  simp [intOf]; omega
theorem neq_of {s : ByteArray} (h : NotS s) {n : Int} (hf : fits n) : (Lib.itoa n == s.toList) = false := by
  have := h n hf
  rw [Lib.toList_data]
  simpa using this
theorem eq_of {s : ByteArray} {n : Int} (he : Lib.itoa n = s.data.toList) : (Lib.itoa n == s.toList) = true := by rw [Lib.toList_data, he]; simp
set_option maxHeartbeats 1000000 in
theorem refparse_no_minus (s : ByteArray) (hn : NotS s) (w : World) (hs : s.size ≤ 20) (h0 : 0 < s.size) (hm : ((s[0]).toNat : Int) = 45) :
    Calls Tryd.prog 27 #[.string s] w fun e w' => e = ErrNo ∧ Below w.heap.size w w' := by
  have HN := Lib.hid hn
  clear hn
  have hm1 : (((s[0]).toNat : Int) == 45) = true := by rw [hm]; rfl
  clear hm
  go_enter Tryd.func27, Tryd.ntmps27
  go_wp2_with fail
  go_loop [6, 7, 8] (fun x i _ => ∃ (k : Nat) (a : Int), k ≤ s.size ∧ i = .int .i64 k ∧ x = .int .i64 a ∧ -4611686018427387904 ≤ a ∧ a ≤ 0) (fun _ i _ => s.size - (intOf i).toNat)
  case atStart => exact ⟨1, 0, by omega, rfl, rfl, by omega, by omega⟩
  case round =>
    obtain ⟨k, a, hk, rfl, rfl, ha0, ha1⟩ := hrel
    by_cases hlt : k < s.size
    · by_cases hd : 48 ≤ ((s[k]).toNat : Int) ∧ ((s[k]).toNat : Int) ≤ 57
      · obtain ⟨hd0, hd1⟩ := hd
        have HD : Hid (0 ≤ ((s[k]).toNat : Int) - 48 ∧ ((s[k]).toNat : Int) - 48 ≤ 9) := ⟨by omega, by omega⟩
        by_cases hb : (-4611686018427387904 + (((s[k]).toNat : Int) - 48)).tdiv 10 ≤ a
        · have HB := Lib.hid hb
          go_wp2_with fail
          go_round
          case rel => exact rel_no hlt ⟨HD.out, HB.out⟩ ha1
          case measure => exact meas_up hlt
        · go_wp2_with fail
          go_ret2
          exact ⟨rfl, Below.refl _ _⟩
      · by_cases hd0 : ((s[k]).toNat : Int) - 48 < 0
        · have hd1 : decide (((s[k]).toNat : Int) - 48 < 0) = true := by simpa using hd0
          clear hd
          go_wp2_with fail
          go_ret2
          exact ⟨rfl, Below.refl _ _⟩
        · have hd1 : decide (((s[k]).toNat : Int) - 48 < 0) = false := by rw [decide_eq_false_iff_not]; exact hd0
          have hd3 : ((s[k]).toNat : Int) ≤ 255 := by have := (s[k]).toNat_lt; omega
          have hd2 : decide (9 < ((s[k]).toNat : Int) - 48) = true := by rw [decide_eq_true_eq]; omega
          clear hd
          go_wp2_with fail
          go_ret2
          exact ⟨rfl, Below.refl _ _⟩
    · obtain rfl : k = s.size := by omega
      have hq := neq_of HN.out (show fits a from ⟨ha0, by omega⟩)
      go_wp2_with fail
      refine (reftext_any a (by omega) (by omega) _).mono ?_
      rintro e w1 ⟨rfl, hb⟩
      go_wp2_with fail
      go_ret2
      exact ⟨rfl, hb⟩
set_option maxHeartbeats 1000000 in
theorem refparse_no_plus (s : ByteArray) (hn : NotS s) (w : World) (hs : s.size ≤ 20) (h0 : 0 < s.size) (hm : ¬ ((s[0]).toNat : Int) = 45) :
    Calls Tryd.prog 27 #[.string s] w fun e w' => e = ErrNo ∧ Below w.heap.size w w' := by
  have HN := Lib.hid hn
  clear hn
  have hm1 : (((s[0]).toNat : Int) == 45) = false := by simpa using hm
  clear hm
  go_enter Tryd.func27, Tryd.ntmps27
  go_wp2_with fail
  go_loop [6, 7, 8] (fun x i _ => ∃ (k : Nat) (a : Int), k ≤ s.size ∧ i = .int .i64 k ∧ x = .int .i64 a ∧ -4611686018427387904 ≤ a ∧ a ≤ 0) (fun _ i _ => s.size - (intOf i).toNat)
  case atStart => exact ⟨0, 0, by omega, rfl, rfl, by omega, by omega⟩
  case round =>
    obtain ⟨k, a, hk, rfl, rfl, ha0, ha1⟩ := hrel
    by_cases hlt : k < s.size
    · by_cases hd : 48 ≤ ((s[k]).toNat : Int) ∧ ((s[k]).toNat : Int) ≤ 57
      · obtain ⟨hd0, hd1⟩ := hd
        have HD : Hid (0 ≤ ((s[k]).toNat : Int) - 48 ∧ ((s[k]).toNat : Int) - 48 ≤ 9) := ⟨by omega, by omega⟩
        by_cases hb : (-4611686018427387904 + (((s[k]).toNat : Int) - 48)).tdiv 10 ≤ a
        · have HB := Lib.hid hb
          go_wp2_with fail
          go_round
          case rel => exact rel_no hlt ⟨HD.out, HB.out⟩ ha1
          case measure => exact meas_up hlt
        · go_wp2_with fail
          go_ret2
          exact ⟨rfl, Below.refl _ _⟩
      · by_cases hd0 : ((s[k]).toNat : Int) - 48 < 0
        · have hd1 : decide (((s[k]).toNat : Int) - 48 < 0) = true := by simpa using hd0
          clear hd
          go_wp2_with fail
          go_ret2
          exact ⟨rfl, Below.refl _ _⟩
        · have hd1 : decide (((s[k]).toNat : Int) - 48 < 0) = false := by rw [decide_eq_false_iff_not]; exact hd0
          have hd3 : ((s[k]).toNat : Int) ≤ 255 := by have := (s[k]).toNat_lt; omega
          have hd2 : decide (9 < ((s[k]).toNat : Int) - 48) = true := by rw [decide_eq_true_eq]; omega
          clear hd
          go_wp2_with fail
          go_ret2
          exact ⟨rfl, Below.refl _ _⟩
    · obtain rfl : k = s.size := by omega
      by_cases hh : a = -4611686018427387904
      · have hh1 : (a == -4611686018427387904) = true := by rw [hh]; rfl
        clear hh
        go_wp2_with fail
        go_ret2
        exact ⟨rfl, Below.refl _ _⟩
      · have hh1 : (a == -4611686018427387904) = false := by simpa using hh
        have hq := neq_of HN.out (show fits (-a) from ⟨by omega, by omega⟩)
        clear hh
        go_wp2_with fail
        refine (reftext_any (-a) (by omega) (by omega) _).mono ?_
        rintro e w1 ⟨rfl, hb⟩
        go_wp2_with fail
        go_ret2
        exact ⟨rfl, hb⟩
set_option maxHeartbeats 1000000 in
theorem refparse_no_none (s : ByteArray) (hn : NotS s) (w : World) (hs : s.size ≤ 20) (h0 : s.size = 0) :
    Calls Tryd.prog 27 #[.string s] w fun e w' => e = ErrNo ∧ Below w.heap.size w w' := by
  have HN := Lib.hid hn
  clear hn
  have hm1 : decide (0 < (s.size : Int)) = false := by rw [decide_eq_false_iff_not]; omega
  have hz : s.size ≤ 0 := by omega
  have hq := neq_of HN.out (show fits 0 from ⟨by omega, by omega⟩)
  clear h0
  go_enter Tryd.func27, Tryd.ntmps27
  go_wp2_with fail
  go_loop [6, 7, 8] (fun x i _ => i = .int .i64 0 ∧ x = .int .i64 0) (fun _ _ _ => 0)
  case atStart => exact ⟨rfl, rfl⟩
  case round =>
    obtain ⟨rfl, rfl⟩ := hrel
    go_wp2_with fail
    refine (reftext_any 0 (by omega) (by omega) _).mono ?_
    rintro e w1 ⟨rfl, hb⟩
    go_wp2_with fail
    go_ret2
    exact ⟨rfl, hb⟩
set_option maxHeartbeats 1000000 in
theorem refparse_no (s : ByteArray) (hn : NotS s) (w : World) :
    Calls Tryd.prog 27 #[.string s] w fun e w' => e = ErrNo ∧ Below w.heap.size w w' := by
  by_cases hl : s.size ≤ 20
  · by_cases h0 : 0 < s.size
    · by_cases hm : ((s[0]).toNat : Int) = 45
      · exact refparse_no_minus s hn w hl h0 hm
      · exact refparse_no_plus s hn w hl h0 hm
    · exact refparse_no_none s hn w hl (by omega)
  · go_enter Tryd.func27, Tryd.ntmps27
    go_wp2_with fail
    go_ret2
    exact ⟨rfl, Below.refl _ _⟩
/-- a digit that is read of a numeral goes in -/
theorem fits_step {n : Int} (hf : fits n) {k : Nat} {x sg d : Int} (h1 : Read n (k + 1) (x * 10 + d) sg) (_h0 : 0 ≤ x) (hd0 : 0 ≤ d) (hd1 : d ≤ 9) :
    (-4611686018427387904 + d).tdiv 10 ≤ -x ∧ wrap64 (wrap64 (10 * -x) - d) = -(x * 10 + d) := by
  have b := read_bd hf h1
  rw [bound_eq d hd0 hd1]
  unfold wrap64; omega
theorem dig_at {s : ByteArray} {n : Int} (he : Lib.itoa n = s.data.toList) {k : Nat} (hk : k < s.size) (hp : 0 < k ∨ 0 ≤ n) : 48 ≤ ((s[k]).toNat : Int) ∧ ((s[k]).toNat : Int) ≤ 57 := by
  have hl : k < (Lib.itoa n).length := by rw [len_eq he]; exact hk
  have e := at_eq he hk hl
  by_cases hd : isDig ((Lib.itoa n)[k])
  · unfold isDig at hd; rw [e] at hd; omega
  · obtain ⟨h1, h2⟩ := read_other hl hd
    subst h1
    have hn : 0 ≤ n := by omega
    exfalso
    apply hd
    have e3 := itoa_pos hn
    have hl2 : 0 < (Lib.decDigits n.toNat).length := by rw [← e3]; exact hl
    have e4 : (Lib.itoa n)[0] = (Lib.decDigits n.toNat)[0] := by simp only [e3]
    rw [e4]; exact dec_dig _ _ (List.getElem_mem hl2)
theorem read_next {s : ByteArray} {n : Int} (he : Lib.itoa n = s.data.toList) {k : Nat} (hk : k < s.size) (hd : 48 ≤ ((s[k]).toNat : Int) ∧ ((s[k]).toNat : Int) ≤ 57) {x sg : Int} (h : Read n k x sg) : Read n (k + 1) (x * 10 + (((s[k]).toNat : Int) - 48)) sg := by
  have hl : k < (Lib.itoa n).length := by rw [len_eq he]; exact hk
  have e := at_eq he hk hl
  have r := read_digit h hl (by unfold isDig; rw [e]; omega)
  rwa [e] at r
theorem first_minus {s : ByteArray} {n : Int} (he : Lib.itoa n = s.data.toList) (hn : n < 0) : ∃ h : 0 < s.size, ((s[0]).toNat : Int) = 45 := by
  have e := itoa_neg' hn
  have hl : 0 < (Lib.itoa n).length := by rw [e]; simp
  have hs : 0 < s.size := by rw [← len_eq he]; exact hl
  refine ⟨hs, ?_⟩
  rw [← at_eq he hs hl]
  have e4 : (Lib.itoa n)[0] = 45 := by simp only [e]; rfl
  rw [e4]; rfl
theorem first_plus {s : ByteArray} {n : Int} (he : Lib.itoa n = s.data.toList) (hn : 0 ≤ n) : ∃ h : 0 < s.size, ¬ ((s[0]).toNat : Int) = 45 := by
  have e := itoa_pos hn
  have hl : 0 < (Lib.itoa n).length := by rw [e]; exact List.length_pos_iff.2 (dec_ne _)
  have hs : 0 < s.size := by rw [← len_eq he]; exact hl
  refine ⟨hs, ?_⟩
  have := dig_at he hs (.inr hn)
  omega
set_option maxHeartbeats 1000000 in
theorem refparse_yes_neg (s : ByteArray) (n : Int) (hn : Dec s n) (hz : n < 0) (w : World) :
    Calls Tryd.prog 27 #[.string s] w fun e w' => e = .returned (.tuple #[.int .i64 n, .int .i64 0]) ∧ Below w.heap.size w w' := by
  have HF := Lib.hid hn.1
  have HE := Lib.hid hn.2
  have hs : s.size ≤ 20 := by
    by_cases h : s.size ≤ 20
    · exact h
    · exact (no_len (by omega) n hn.1 hn.2).elim
  obtain ⟨h0, hm⟩ := first_minus hn.2 hz
  have HM := Lib.hid hm
  have hm1 : (((s[0]).toNat : Int) == 45) = true := by rw [hm]; rfl
  have hb0 : -9223372036854775808 ≤ n ∧ n ≤ 9223372036854775807 := by have := hn.1; unfold fits at this; omega
  obtain ⟨hb0, hb1⟩ := hb0
  clear hm hn
  go_enter Tryd.func27, Tryd.ntmps27
  go_wp2_with fail
  go_loop [6, 7, 8] (fun x i _ => ∃ (k : Nat) (a : Int), 0 < k ∧ k ≤ s.size ∧ i = .int .i64 k ∧ x = .int .i64 (-a) ∧ 0 ≤ a ∧ a ≤ 4611686018427387904 ∧ ∃ sg, Read n k a sg) (fun _ i _ => s.size - (intOf i).toNat)
  case atStart => exact ⟨1, 0, by omega, by omega, rfl, rfl, by omega, by omega, (by have := read_minus (read_start n) (by rw [len_eq HE.out]; exact h0) (by rw [at_eq HE.out h0]; apply UInt8.toNat_inj.1; have : (45 : UInt8).toNat = 45 := rfl; have := HM.out; omega); exact ⟨_, this⟩)⟩
  case round =>
    obtain ⟨k, a, hkp, hk, rfl, rfl, ha0, ha1, sg, hR⟩ := hrel
    have HR := Lib.hid hR
    clear hR
    by_cases hlt : k < s.size
    · have hd := dig_at HE.out hlt (.inl hkp)
      have HX := Lib.hid (read_next HE.out hlt hd HR.out)
      obtain ⟨hc1, hc2⟩ := fits_step HF.out HX.out ha0 (by omega) (by omega)
      have hbx := read_bd HF.out HX.out
      have HC := Lib.hid hc2
      have HB := Lib.hid hbx
      clear hc2 hbx
      obtain ⟨hd0, hd1⟩ := hd
      go_wp2_with fail
      go_round
      case rel => exact ⟨k + 1, a * 10 + (((s[k]).toNat : Int) - 48), by omega, hlt, by simp, by rw [HC.out], HB.out.1, HB.out.2, sg, HX.out⟩
      case measure => exact meas_up hlt
    · obtain rfl : k = s.size := by omega
      have hend := HR.out
      rw [← len_eq HE.out] at hend
      obtain ⟨_, _, hx⟩ := read_end hend
      obtain rfl : a = -n := by omega
      have hq := eq_of HE.out
      clear hend hx
      go_wp2_with fail
      refine (reftext_any n (by omega) (by omega) _).mono ?_
      rintro e w1 ⟨rfl, hb⟩
      go_wp2_with fail
      go_ret2
      exact ⟨rfl, hb⟩
set_option maxHeartbeats 1000000 in
theorem refparse_yes_pos (s : ByteArray) (n : Int) (hn : Dec s n) (hz : 0 ≤ n) (w : World) :
    Calls Tryd.prog 27 #[.string s] w fun e w' => e = .returned (.tuple #[.int .i64 n, .int .i64 0]) ∧ Below w.heap.size w w' := by
  have HF := Lib.hid hn.1
  have HE := Lib.hid hn.2
  have hs : s.size ≤ 20 := by
    by_cases h : s.size ≤ 20
    · exact h
    · exact (no_len (by omega) n hn.1 hn.2).elim
  obtain ⟨h0, hm⟩ := first_plus hn.2 hz
  have HM := Lib.hid hm
  have hm1 : (((s[0]).toNat : Int) == 45) = false := by simpa using hm
  have hb0 : -9223372036854775808 ≤ n ∧ n ≤ 9223372036854775807 := by have := hn.1; unfold fits at this; omega
  obtain ⟨hb0, hb1⟩ := hb0
  clear hm hn
  go_enter Tryd.func27, Tryd.ntmps27
  go_wp2_with fail
  go_loop [6, 7, 8] (fun x i _ => ∃ (k : Nat) (a : Int), k ≤ s.size ∧ i = .int .i64 k ∧ x = .int .i64 (-a) ∧ 0 ≤ a ∧ a ≤ 4611686018427387904 ∧ ∃ sg, Read n k a sg) (fun _ i _ => s.size - (intOf i).toNat)
  case atStart => exact ⟨0, 0, by omega, rfl, rfl, by omega, by omega, ⟨_, read_start n⟩⟩
  case round =>
    obtain ⟨k, a, hk, rfl, rfl, ha0, ha1, sg, hR⟩ := hrel
    have HR := Lib.hid hR
    clear hR
    by_cases hlt : k < s.size
    · have hd := dig_at HE.out hlt (.inr hz)
      have HX := Lib.hid (read_next HE.out hlt hd HR.out)
      obtain ⟨hc1, hc2⟩ := fits_step HF.out HX.out ha0 (by omega) (by omega)
      have hbx := read_bd HF.out HX.out
      have HC := Lib.hid hc2
      have HB := Lib.hid hbx
      clear hc2 hbx
      obtain ⟨hd0, hd1⟩ := hd
      go_wp2_with fail
      go_round
      case rel => exact ⟨k + 1, a * 10 + (((s[k]).toNat : Int) - 48), hlt, by simp, by rw [HC.out], HB.out.1, HB.out.2, sg, HX.out⟩
      case measure => exact meas_up hlt
    · obtain rfl : k = s.size := by omega
      have hend := HR.out
      rw [← len_eq HE.out] at hend
      obtain ⟨_, _, hx⟩ := read_end hend
      obtain rfl : a = n := by omega
      have hq := eq_of HE.out
      have hlim : (-a == -4611686018427387904) = false := by
        have h1 : ¬ (-a = -4611686018427387904) := by have := HF.out; unfold fits at this; omega
        simpa using h1
      clear hend hx
      go_wp2_with fail
      refine (reftext_any a (by omega) (by omega) _).mono ?_
      rintro e w1 ⟨rfl, hb⟩
      go_wp2_with fail
      go_ret2
      exact ⟨rfl, hb⟩
theorem refparse_yes (s : ByteArray) (n : Int) (hn : Dec s n) (w : World) :
    Calls Tryd.prog 27 #[.string s] w fun e w' => e = .returned (.tuple #[.int .i64 n, .int .i64 0]) ∧ Below w.heap.size w w' := by
  by_cases h : n < 0
  · exact refparse_yes_neg s n hn h w
  · exact refparse_yes_pos s n hn (by omega) w
/-- the number of a word, or 0 -/
theorem refnum_any (l : List UInt8) (w : World) :
    Calls Tryd.prog 27 #[.string ⟨l.toArray⟩] w fun e w' => (∃ r er : Int, e = .returned (.tuple #[.int .i64 r, .int .i64 er]) ∧ ∀ n, fits n → Lib.itoa n = l → r = n) ∧ Below w.heap.size w w' := by
  by_cases h : ∃ n, Dec ⟨l.toArray⟩ n
  · obtain ⟨n, hn⟩ := h
    refine (refparse_yes _ n hn w).mono ?_
    rintro e w1 ⟨rfl, hb⟩
    exact ⟨⟨n, 0, rfl, fun m hm he => itoa_inj (hn.2.trans he.symm)⟩, hb⟩
  · have hno : NotS ⟨l.toArray⟩ := fun n hn he => h ⟨n, hn, he⟩
    refine (refparse_no _ hno w).mono ?_
    rintro e w1 ⟨rfl, hb⟩
    exact ⟨⟨0, 11, rfl, fun m hm he => (hno m hm he).elim⟩, hb⟩
end Go.Proofs.YtfpgalckmfdcmaaDoor
