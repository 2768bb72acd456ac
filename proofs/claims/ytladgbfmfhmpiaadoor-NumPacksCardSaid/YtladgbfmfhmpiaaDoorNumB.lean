/- Contracts of division, words of integers and words of addresses in package num and in the reference: each only computes. Conditions: the arguments are of their Go kinds. -/
import Derived.Test.YtladgbfmfhmpiaaDoorNum
namespace Go.Proofs.YtladgbfmfhmpiaaDoor
open Go Go.RowKit
theorem ret2 {k : IntKind} {a b : Int} {c : Value} (h : a = b) : Ending.returned (.tuple #[.int k a, c]) = .returned (.tuple #[.int k b, c]) := by rw [h]
theorem ret22 {k : IntKind} {a b c d : Int} (h : a = b) (h2 : c = d) : Ending.returned (.tuple #[.int k a, .int k c]) = .returned (.tuple #[.int k b, .int k d]) := by rw [h, h2]
theorem fl_zero {a b : Int} (h : a.tmod b = 0) : a.tdiv b = fl a b := by unfold fl; simp [h]
theorem fl_pos {a b : Int} (h : a.tmod b ≠ 0) (h2 : a < 0 ↔ ¬ b < 0) : a.tdiv b - 1 = fl a b := by unfold fl; rw [if_pos ⟨h, h2⟩]
theorem fl_neg {a b : Int} (h2 : ¬ (a < 0 ↔ ¬ b < 0)) : a.tdiv b = fl a b := by unfold fl; rw [if_neg (fun x => h2 x.2)]
set_option maxHeartbeats 400000 in
theorem floor_any (a b : Int) (w : World) (hb : b ≠ 0) (h0 : -4611686018427387904 ≤ a) (h1 : a ≤ 4611686018427387903) :
    Calls Tryd.prog 55 #[.int .i64 a, .int .i64 b] w fun e w' => e = .returned (.int .i64 (fl a b)) ∧ w = w' := by
  obtain ⟨hq0, hq1⟩ := tdiv_lo (b := b) h0 h1
  by_cases hm : a.tmod b = 0
  · have hm1 : (a.tmod b != 0) = false := by simp [hm]
    have HM := Lib.hid hm
    clear hm
    go_enter Tryd.func55, Tryd.ntmps55
    go_wp2
    go_ret
    exact ⟨ret_int (fl_zero HM.out), rfl⟩
  · have hm1 : (a.tmod b != 0) = true := by simp [hm]
    have HM := Lib.hid hm
    clear hm
    by_cases ha : a < 0 <;> by_cases hb2 : b < 0
    · go_enter Tryd.func55, Tryd.ntmps55
      go_wp2
      go_ret
      exact ⟨ret_int (fl_neg (by omega)), rfl⟩
    · go_enter Tryd.func55, Tryd.ntmps55
      go_wp2
      go_ret
      exact ⟨ret_int (fl_pos HM.out (by omega)), rfl⟩
    · have hm2 : (a % b != 0) = true := by rw [← Int.tmod_eq_emod_of_nonneg (by omega)]; exact hm1
      go_enter Tryd.func55, Tryd.ntmps55
      go_wp2
      go_ret
      exact ⟨ret_int (fl_pos HM.out (by omega)), rfl⟩
    · have hm2 : (a % b != 0) = true := by rw [← Int.tmod_eq_emod_of_nonneg (by omega)]; exact hm1
      go_enter Tryd.func55, Tryd.ntmps55
      go_wp2
      go_ret
      exact ⟨ret_int (fl_neg (by omega)), rfl⟩
/-- b * (the quotient, down) leaves no int64 where b is not 0 -/
theorem bfl_bd {a b : Int} (h0 : -4611686018427387904 ≤ a) (h1 : a ≤ 4611686018427387903) (hb : b ≠ 0) (g0 : -4611686018427387904 ≤ b) (g1 : b ≤ 4611686018427387903) : -9223372036854775808 ≤ b * fl a b ∧ b * fl a b ≤ 9223372036854775807 := by
  have e : b * fl a b = a - rest a b := by unfold rest; omega
  rw [e]
  rcases Int.lt_or_gt_of_ne hb with h | h
  · have := rest_neg (a := a) h; omega
  · have := rest_pos (a := a) h; omega
/-- what Div answers -/
def divQ (a b : Int) : Int := if W b = 0 then 0 else W (fl (W a) (W b))
def divE (b : Int) : Int := if W b = 0 then 10 else 0
def modR (a b : Int) : Int := if W b = 0 then 0 else rest (W a) (W b)
theorem divQ_zero {a b : Int} (h : W b = 0) : divQ a b = 0 := by unfold divQ; rw [if_pos h]
theorem divQ_some {a b : Int} (h : W b ≠ 0) : divQ a b = W (fl (W a) (W b)) := by unfold divQ; rw [if_neg h]
theorem modR_zero {a b : Int} (h : W b = 0) : modR a b = 0 := by unfold modR; rw [if_pos h]
theorem modR_some {a b : Int} (h : W b ≠ 0) : modR a b = rest (W a) (W b) := by unfold modR; rw [if_neg h]
theorem divE_zero {b : Int} (h : W b = 0) : divE b = 10 := by unfold divE; rw [if_pos h]
theorem divE_some {b : Int} (h : W b ≠ 0) : divE b = 0 := by unfold divE; rw [if_neg h]
set_option maxHeartbeats 400000 in
theorem div_any (a b : Int) (w : World) :
    Calls Tryd.prog 26 #[.int .i64 a, .int .i64 b] w fun e w' => e = .returned (.tuple #[.int .i64 (divQ a b), .int .i64 (divE b)]) ∧ w = w' := by
  have a0 := W_lo a; have a1 := W_hi a; have b0 := W_lo b; have b1 := W_hi b
  by_cases hb : W b = 0
  · have hz : (W b == 0) = true := by simp [hb]
    have HB := Lib.hid hb
    clear hb
    go_enter Tryd.func26, Tryd.ntmps26
    go_wp2_with (go_at_call 14; refine (wrap_any _ _).mono ?_; rintro e w' ⟨rfl, rfl⟩)
    go_ret2
    exact ⟨ret22 (divQ_zero HB.out).symm (divE_zero HB.out).symm, rfl⟩
  · have hz : (W b == 0) = false := by simp [hb]
    go_enter Tryd.func26, Tryd.ntmps26
    go_wp2_with (first | (go_at_call 14; refine (wrap_any _ _).mono ?_; rintro e w' ⟨rfl, rfl⟩) | (go_at_call 55; refine (floor_any _ _ _ hb a0 a1).mono ?_; rintro e w' ⟨rfl, rfl⟩))
    go_ret2
    exact ⟨ret22 (divQ_some hb).symm (divE_some hb).symm, rfl⟩
set_option maxHeartbeats 400000 in
theorem mod_any (a b : Int) (w : World) :
    Calls Tryd.prog 28 #[.int .i64 a, .int .i64 b] w fun e w' => e = .returned (.tuple #[.int .i64 (modR a b), .int .i64 (divE b)]) ∧ w = w' := by
  have a0 := W_lo a; have a1 := W_hi a; have b0 := W_lo b; have b1 := W_hi b
  by_cases hb : W b = 0
  · have hz : (W b == 0) = true := by simp [hb]
    have HB := Lib.hid hb
    clear hb
    go_enter Tryd.func28, Tryd.ntmps28
    go_wp2_with (go_at_call 14; refine (wrap_any _ _).mono ?_; rintro e w' ⟨rfl, rfl⟩)
    go_ret2
    exact ⟨ret22 (modR_zero HB.out).symm (divE_zero HB.out).symm, rfl⟩
  · have hz : (W b == 0) = false := by simp [hb]
    obtain ⟨k0, k1⟩ := bfl_bd a0 a1 hb b0 b1
    have r0 : -9223372036854775808 ≤ W a - W b * fl (W a) (W b) ∧ W a - W b * fl (W a) (W b) ≤ 9223372036854775807 := by
      show -9223372036854775808 ≤ rest (W a) (W b) ∧ rest (W a) (W b) ≤ 9223372036854775807
      rcases Int.lt_or_gt_of_ne hb with h | h
      · have := rest_neg (a := W a) h; omega
      · have := rest_pos (a := W a) h; omega
    obtain ⟨r0, r1⟩ := r0
    go_enter Tryd.func28, Tryd.ntmps28
    go_wp2_with (first | (go_at_call 14; refine (wrap_any _ _).mono ?_; rintro e w' ⟨rfl, rfl⟩) | (go_at_call 55; refine (floor_any _ _ _ hb a0 a1).mono ?_; rintro e w' ⟨rfl, rfl⟩))
    go_ret2
    exact ⟨ret22 (modR_some hb).symm (divE_some hb).symm, rfl⟩
theorem sgn_mod {a b : Int} (hm : a.tmod b ≠ 0) : (a - b * a.tdiv b < 0 ↔ a < 0) := by rw [tmod_eq]; exact tmod_sign hm
set_option maxHeartbeats 400000 in
theorem down_any (a b : Int) (w : World) (hb : b ≠ 0) (h0 : -4611686018427387904 ≤ a) (h1 : a ≤ 4611686018427387903) (g0 : -4611686018427387904 ≤ b) (g1 : b ≤ 4611686018427387903) :
    Calls Tryd.prog 56 #[.int .i64 a, .int .i64 b] w fun e w' => e = .returned (.tuple #[.int .i64 (fl a b), .int .i64 (rest a b)]) ∧ w = w' := by
  obtain ⟨hq0, hq1⟩ := tdiv_lo (b := b) h0 h1
  have hl := tmod_lt (a := a) hb
  have e := tmod_eq a b
  have p0 : -9223372036854775808 ≤ b * a.tdiv b := by omega
  have p1 : b * a.tdiv b ≤ 9223372036854775807 := by omega
  have p2 : -9223372036854775808 ≤ a - b * a.tdiv b := by omega
  have p3 : a - b * a.tdiv b ≤ 9223372036854775807 := by omega
  have HR := Lib.hid (rest_eq a b)
  by_cases hm : a.tmod b = 0
  · have hm1 : (a - b * a.tdiv b != 0) = false := by rw [e]; simp [hm]
    have HM := Lib.hid hm
    have HE := Lib.hid e
    clear hm e hl
    go_enter Tryd.func56, Tryd.ntmps56
    go_wp2
    go_ret2
    exact ⟨ret22 (fl_zero HM.out) (by rw [HR.out, HE.out, if_neg (fun x => x.1 HM.out)]), rfl⟩
  · have hm1 : (a - b * a.tdiv b != 0) = true := by rw [e]; simp [hm]
    have hs := sgn_mod hm
    have HE := Lib.hid e
    have HM := Lib.hid hm
    clear hm
    by_cases ha : a < 0 <;> by_cases hb2 : b < 0
    · have hc : a - b * a.tdiv b < 0 := hs.2 ha
      have h2 : ¬ (a < 0 ↔ ¬ b < 0) := by omega
      have H2 := Lib.hid h2
      clear hs e hl h2
      go_enter Tryd.func56, Tryd.ntmps56
      go_wp2
      go_ret2
      exact ⟨ret22 (fl_neg (by have := H2.out; omega)) (by rw [HR.out, HE.out, if_neg (fun x => H2.out (by have := x.2; omega))]), rfl⟩
    · have hc : a - b * a.tdiv b < 0 := hs.2 ha
      have h2 : (a < 0 ↔ ¬ b < 0) := by omega
      have H2 := Lib.hid h2
      clear hs e hl h2
      go_enter Tryd.func56, Tryd.ntmps56
      go_wp2
      go_ret2
      exact ⟨ret22 (fl_pos HM.out (by have := H2.out; omega)) (by rw [HR.out, HE.out, if_pos ⟨HM.out, by have := H2.out; omega⟩]), rfl⟩
    · have hc : ¬ a - b * a.tdiv b < 0 := fun x => ha (hs.1 x)
      have h2 : (a < 0 ↔ ¬ b < 0) := by omega
      have H2 := Lib.hid h2
      clear hs e hl h2
      go_enter Tryd.func56, Tryd.ntmps56
      go_wp2
      go_ret2
      exact ⟨ret22 (fl_pos HM.out (by have := H2.out; omega)) (by rw [HR.out, HE.out, if_pos ⟨HM.out, by have := H2.out; omega⟩]), rfl⟩
    · have hc : ¬ a - b * a.tdiv b < 0 := fun x => ha (hs.1 x)
      have h2 : ¬ (a < 0 ↔ ¬ b < 0) := by omega
      have H2 := Lib.hid h2
      clear hs e hl h2
      go_enter Tryd.func56, Tryd.ntmps56
      go_wp2
      go_ret2
      exact ⟨ret22 (fl_neg (by have := H2.out; omega)) (by rw [HR.out, HE.out, if_neg (fun x => H2.out (by have := x.2; omega))]), rfl⟩
set_option maxHeartbeats 400000 in
theorem refdiv_any (a b : Int) (w : World) (h0 : -9223372036854775808 ≤ a) (h1 : a ≤ 9223372036854775807) (g0 : -9223372036854775808 ≤ b) (g1 : b ≤ 9223372036854775807) :
    Calls Tryd.prog 27 #[.int .i64 a, .int .i64 b] w fun e w' => e = .returned (.tuple #[.int .i64 (divQ a b), .int .i64 (divE b)]) ∧ w = w' := by
  have a0 := W_lo a; have a1 := W_hi a; have b0 := W_lo b; have b1 := W_hi b
  obtain ⟨f0, f1⟩ := fl_bd (b := W b) a0 a1
  by_cases hb : W b = 0
  · have hz : (W b == 0) = true := by simp [hb]
    have HB := Lib.hid hb
    clear hb
    go_enter Tryd.func27, Tryd.ntmps27
    go_wp2_with (go_at_call 15; refine (refwrap_any _ _ g0 g1).mono ?_; rintro e w' ⟨rfl, rfl⟩)
    go_ret2
    exact ⟨ret22 (divQ_zero HB.out).symm (divE_zero HB.out).symm, rfl⟩
  · have hz : (W b == 0) = false := by simp [hb]
    go_enter Tryd.func27, Tryd.ntmps27
    go_wp2_with (first | (go_at_call 15; refine (refwrap_any _ _ (by omega) (by omega)).mono ?_; rintro e w' ⟨rfl, rfl⟩) | (go_at_call 56; refine (down_any _ _ _ hb a0 a1 b0 b1).mono ?_; rintro e w' ⟨rfl, rfl⟩))
    go_ret2
    exact ⟨ret22 (divQ_some hb).symm (divE_some hb).symm, rfl⟩
set_option maxHeartbeats 400000 in
theorem refmod_any (a b : Int) (w : World) (h0 : -9223372036854775808 ≤ a) (h1 : a ≤ 9223372036854775807) (g0 : -9223372036854775808 ≤ b) (g1 : b ≤ 9223372036854775807) :
    Calls Tryd.prog 29 #[.int .i64 a, .int .i64 b] w fun e w' => e = .returned (.tuple #[.int .i64 (modR a b), .int .i64 (divE b)]) ∧ w = w' := by
  have a0 := W_lo a; have a1 := W_hi a; have b0 := W_lo b; have b1 := W_hi b
  by_cases hb : W b = 0
  · have hz : (W b == 0) = true := by simp [hb]
    have HB := Lib.hid hb
    clear hb
    go_enter Tryd.func29, Tryd.ntmps29
    go_wp2_with (go_at_call 15; refine (refwrap_any _ _ g0 g1).mono ?_; rintro e w' ⟨rfl, rfl⟩)
    go_ret2
    exact ⟨ret22 (modR_zero HB.out).symm (divE_zero HB.out).symm, rfl⟩
  · have hz : (W b == 0) = false := by simp [hb]
    go_enter Tryd.func29, Tryd.ntmps29
    go_wp2_with (first | (go_at_call 15; refine (refwrap_any _ _ (by omega) (by omega)).mono ?_; rintro e w' ⟨rfl, rfl⟩) | (go_at_call 56; refine (down_any _ _ _ hb a0 a1 b0 b1).mono ?_; rintro e w' ⟨rfl, rfl⟩))
    go_ret2
    exact ⟨ret22 (modR_some hb).symm (divE_some hb).symm, rfl⟩
end Go.Proofs.YtladgbfmfhmpiaaDoor
