/- The walk of the statement NumMeets: it returns true. Condition: the library's table of powers of ten reads as it is laid. -/
import Derived.Test.YtladgbfmfhmpiaaDoorTo
namespace Go.Proofs.YtladgbfmfhmpiaaDoor
open Go Go.RowKit
theorem div_z (a b : Int) (h : W b = 0) (w : World) : Calls Tryd.prog 26 #[.int .i64 a, .int .i64 b] w fun e w' => e = .returned (.tuple #[.int .i64 0, .int .i64 10]) ∧ w = w' := by
  refine (div_any a b w).mono ?_
  rintro e w' ⟨rfl, rfl⟩
  exact ⟨ret22 (divQ_zero h) (divE_zero h), rfl⟩
theorem mod_z (a b : Int) (h : W b = 0) (w : World) : Calls Tryd.prog 28 #[.int .i64 a, .int .i64 b] w fun e w' => e = .returned (.tuple #[.int .i64 0, .int .i64 10]) ∧ w = w' := by
  refine (mod_any a b w).mono ?_
  rintro e w' ⟨rfl, rfl⟩
  exact ⟨ret22 (modR_zero h) (divE_zero h), rfl⟩
theorem div_s (a b : Int) (h : W b ≠ 0) (w : World) : Calls Tryd.prog 26 #[.int .i64 a, .int .i64 b] w fun e w' => e = .returned (.tuple #[.int .i64 (W (fl (W a) (W b))), .int .i64 0]) ∧ w = w' := by
  refine (div_any a b w).mono ?_
  rintro e w' ⟨rfl, rfl⟩
  exact ⟨ret22 (divQ_some h) (divE_some h), rfl⟩
theorem mod_s (a b : Int) (h : W b ≠ 0) (w : World) : Calls Tryd.prog 28 #[.int .i64 a, .int .i64 b] w fun e w' => e = .returned (.tuple #[.int .i64 (rest (W a) (W b)), .int .i64 0]) ∧ w = w' := by
  refine (mod_any a b w).mono ?_
  rintro e w' ⟨rfl, rfl⟩
  exact ⟨ret22 (modR_some h) (divE_some h), rfl⟩
theorem meets (a b : Int) : W (W (W b * W (fl (W a) (W b))) + rest (W a) (W b)) = W a := by
  rw [W_addl, ← W_addl (W b * W (fl (W a) (W b))), W_mulr, W_addl]
  have e : W b * fl (W a) (W b) + rest (W a) (W b) = W a := by unfold rest; omega
  rw [e, W_W]
set_option maxHeartbeats 2000000 in
theorem numMeets_zero (a b : Int) (h : W b = 0) (w : World) (ht : Tab w) :
    Calls Tryd.prog 6 #[.int .i64 a, .int .i64 b] w fun e w' => e = .returned (.bool true) ∧ Below w.heap.size w w' := by
  have HT := Lib.hid ht
  have H := Lib.hid h
  clear ht h
  go_enter Tryd.func6, Tryd.ntmps6
  go_wp2_with fail
  refine (div_z _ _ H.out _).mono ?_
  rintro e w' ⟨rfl, rfl⟩
  go_wp2_with fail
  refine (mod_z _ _ H.out _).mono ?_
  rintro e w' ⟨rfl, rfl⟩
  go_wp2_with fail
  refine (wrap_to _ 0 H.out _).mono ?_
  rintro e w' ⟨rfl, rfl⟩
  go_wp2_with fail
  refine (known_any _ HT.out).mono ?_
  rintro e w1 ⟨rfl, hb⟩
  go_wp2_with fail
  go_ret
  exact ⟨rfl, hb⟩
set_option maxHeartbeats 2000000 in
theorem numMeets_pos (a b : Int) (h : 0 < W b) (w : World) (ht : Tab w) :
    Calls Tryd.prog 6 #[.int .i64 a, .int .i64 b] w fun e w' => e = .returned (.bool true) ∧ Below w.heap.size w w' := by
  have HT := Lib.hid ht
  have hne : W b ≠ 0 := by omega
  have HN := Lib.hid hne
  have hz : (W b == 0) = false := by simpa using hne
  clear ht hne
  obtain ⟨r0, r1⟩ := rest_pos (a := W a) h
  go_enter Tryd.func6, Tryd.ntmps6
  go_wp2_with fail
  refine (div_s _ _ HN.out _).mono ?_
  rintro e w' ⟨rfl, rfl⟩
  go_wp2_with fail
  refine (mod_s _ _ HN.out _).mono ?_
  rintro e w' ⟨rfl, rfl⟩
  go_wp2_with fail
  refine (wrap_any _ _).mono ?_
  rintro e w' ⟨rfl, rfl⟩
  go_wp2_with fail
  refine (mul_any _ _ _).mono ?_
  rintro e w' ⟨rfl, rfl⟩
  go_wp2_with fail
  refine (add_to _ _ (W a) (meets a b) _).mono ?_
  rintro e w' ⟨rfl, rfl⟩
  go_wp2_with fail
  refine (wrap_any _ _).mono ?_
  rintro e w' ⟨rfl, rfl⟩
  go_wp2_with fail
  refine (known_any _ HT.out).mono ?_
  rintro e w1 ⟨rfl, hb⟩
  go_wp2_with fail
  go_ret
  exact ⟨rfl, hb⟩
set_option maxHeartbeats 2000000 in
theorem numMeets_neg (a b : Int) (h : W b < 0) (w : World) (ht : Tab w) :
    Calls Tryd.prog 6 #[.int .i64 a, .int .i64 b] w fun e w' => e = .returned (.bool true) ∧ Below w.heap.size w w' := by
  have HT := Lib.hid ht
  have hne : W b ≠ 0 := by omega
  have HN := Lib.hid hne
  have hz : (W b == 0) = false := by simpa using hne
  clear ht hne
  obtain ⟨r0, r1⟩ := rest_neg (a := W a) h
  go_enter Tryd.func6, Tryd.ntmps6
  go_wp2_with fail
  refine (div_s _ _ HN.out _).mono ?_
  rintro e w' ⟨rfl, rfl⟩
  go_wp2_with fail
  refine (mod_s _ _ HN.out _).mono ?_
  rintro e w' ⟨rfl, rfl⟩
  go_wp2_with fail
  refine (wrap_any _ _).mono ?_
  rintro e w' ⟨rfl, rfl⟩
  go_wp2_with fail
  refine (mul_any _ _ _).mono ?_
  rintro e w' ⟨rfl, rfl⟩
  go_wp2_with fail
  refine (add_to _ _ (W a) (meets a b) _).mono ?_
  rintro e w' ⟨rfl, rfl⟩
  go_wp2_with fail
  refine (wrap_any _ _).mono ?_
  rintro e w' ⟨rfl, rfl⟩
  go_wp2_with fail
  refine (known_any _ HT.out).mono ?_
  rintro e w1 ⟨rfl, hb⟩
  go_wp2_with fail
  go_ret
  exact ⟨rfl, hb⟩
theorem numMeets_walk (a b : Int) (w : World) (ht : Tab w) :
    Calls Tryd.prog 6 #[.int .i64 a, .int .i64 b] w fun e w' => e = .returned (.bool true) ∧ Below w.heap.size w w' := by
  rcases Int.lt_trichotomy (W b) 0 with h | h | h
  · exact numMeets_neg a b h w ht
  · exact numMeets_zero a b h w ht
  · exact numMeets_pos a b h w ht
end Go.Proofs.YtladgbfmfhmpiaaDoor
