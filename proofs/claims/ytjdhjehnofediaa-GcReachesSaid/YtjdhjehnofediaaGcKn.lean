/- The contract of the statements' known: true. Conditions: none. -/
import Derived.Test.YtjdhjehnofediaaGcCol
import Derived.Test.YtjdhjehnofediaaGcHp
import Derived.Test.YtjdhjehnofediaaGcMade
namespace Go.Proofs.Ytjdhjehnofediaa
open Go Go.RowKit
def rsK : List O4 := [⟨0, 0, [-5, 0], 0⟩, ⟨0, 0, [-7], 0⟩]
def osK : List Ob := [⟨1, 2, [5, 2], 0⟩, ⟨1, 1, [7], 0⟩]
theorem rsK_few : (heapO rsK).length = 2 := by kernel_rfl
theorem rsK_W : heapW rsK = 69 := by kernel_rfl
theorem rsK_obs : heapObs (heapO rsK) = osK := by kernel_rfl
theorem osK_reach : reach osK 0 69 [2] = some [0] := by kernel_rfl
theorem osK_live : liveN osK 0 69 [2] = 3 := by kernel_rfl
theorem osK_check : checkE osK 0 69 [2] = 0 := by kernel_rfl
theorem osK_used : used (newF 0 69 osK [0]) = 3 := by kernel_rfl
theorem rsK_in : In4 rsK := ⟨by
  intro o ho x hx
  simp [rsK] at ho
  rcases ho with rfl | rfl
  · simp at hx; rcases hx with rfl | rfl <;> decide
  · simp at hx; subst hx; decide⟩
theorem words_lit (w : World) (n : Nat) (hn : n < 18446744073709551616) : WordsV (w.alloc (.cells #[.int .u64 (n : Int)] 56)) (some ⟨w.heap.size, 0, none⟩) 1 [n] := by
  refine ⟨rfl, by decide, by simpa using hn, fun j x hj => ?_⟩
  cases j with
  | zero =>
    obtain rfl : n = x := by simpa using hj
    exact ⟨_, 0, rfl, by simp, by rw [cell_of_row _ _ (0 + 0) _ _ (0, 0) (heap_alloc_new w _)]; rfl⟩
  | succ j => simp at hj
theorem arg_lit (w : World) : ArgV (((w.alloc (.cells #[.int .i64 (-5), .int .i64 0] 3)).alloc (.cells #[.int .i64 (-7)] 3)).alloc (.cells #[.int .i64 0, .int .i64 0, .slice (some ⟨w.heap.size, 0, none⟩) 2 2, .int .i64 0, .int .i64 0, .int .i64 0, .slice (some ⟨w.heap.size + 1, 0, none⟩) 1 1, .int .i64 0] 71)) (some ⟨w.heap.size + 2, 0, none⟩) 2 rsK := by
  have h0 : (((w.alloc (.cells #[.int .i64 (-5), .int .i64 0] 3)).alloc (.cells #[.int .i64 (-7)] 3)).alloc (.cells #[.int .i64 0, .int .i64 0, .slice (some ⟨w.heap.size, 0, none⟩) 2 2, .int .i64 0, .int .i64 0, .int .i64 0, .slice (some ⟨w.heap.size + 1, 0, none⟩) 1 1, .int .i64 0] 71)).heap[w.heap.size]? = some (.cells #[.int .i64 (-5), .int .i64 0] 3 (0, 0)) := (Below.heap_alloc _ _ _ (by simp <;> omega)).trans ((Below.heap_alloc _ _ _ (by simp <;> omega)).trans (heap_alloc_new w _))
  have h1 : (((w.alloc (.cells #[.int .i64 (-5), .int .i64 0] 3)).alloc (.cells #[.int .i64 (-7)] 3)).alloc (.cells #[.int .i64 0, .int .i64 0, .slice (some ⟨w.heap.size, 0, none⟩) 2 2, .int .i64 0, .int .i64 0, .int .i64 0, .slice (some ⟨w.heap.size + 1, 0, none⟩) 1 1, .int .i64 0] 71)).heap[w.heap.size + 1]? = some (.cells #[.int .i64 (-7)] 3 (0, 0)) := (Below.heap_alloc _ _ _ (by simp <;> omega)).trans (by have := heap_alloc_new (w.alloc (.cells #[.int .i64 (-5), .int .i64 0] 3)) (.cells #[.int .i64 (-7)] 3); rwa [World.size_alloc] at this)
  have h2 : (((w.alloc (.cells #[.int .i64 (-5), .int .i64 0] 3)).alloc (.cells #[.int .i64 (-7)] 3)).alloc (.cells #[.int .i64 0, .int .i64 0, .slice (some ⟨w.heap.size, 0, none⟩) 2 2, .int .i64 0, .int .i64 0, .int .i64 0, .slice (some ⟨w.heap.size + 1, 0, none⟩) 1 1, .int .i64 0] 71)).heap[w.heap.size + 2]? = some (.cells #[.int .i64 0, .int .i64 0, .slice (some ⟨w.heap.size, 0, none⟩) 2 2, .int .i64 0, .int .i64 0, .int .i64 0, .slice (some ⟨w.heap.size + 1, 0, none⟩) 1 1, .int .i64 0] 71 (0, 0)) := by
    have := heap_alloc_new ((w.alloc (.cells #[.int .i64 (-5), .int .i64 0] 3)).alloc (.cells #[.int .i64 (-7)] 3)) (.cells #[.int .i64 0, .int .i64 0, .slice (some ⟨w.heap.size, 0, none⟩) 2 2, .int .i64 0, .int .i64 0, .int .i64 0, .slice (some ⟨w.heap.size + 1, 0, none⟩) 1 1, .int .i64 0] 71)
    rwa [World.size_alloc, World.size_alloc] at this
  refine ⟨rfl, by decide, fun i o hi => ?_, rsK_in⟩
  match i with
  | 0 =>
    obtain rfl : (⟨0, 0, [-5, 0], 0⟩ : O4) = o := by simpa [rsK] using hi
    refine ⟨_, 0, _, 2, rfl, by simp, blk_cell h2 0, blk_cell h2 1, blk_cell h2 2, blk_cell h2 3, by simp, by omega, by simp, fun f x hx => ?_⟩
    match f with
    | 0 => obtain rfl : (-5 : Int) = x := by simpa using hx
           exact ⟨_, 0, rfl, by simp <;> omega, blk_cell h0 0⟩
    | 1 => obtain rfl : (0 : Int) = x := by simpa using hx
           exact ⟨_, 0, rfl, by simp <;> omega, blk_cell h0 1⟩
    | f + 2 => simp at hx
  | 1 =>
    obtain rfl : (⟨0, 0, [-7], 0⟩ : O4) = o := by simpa [rsK] using hi
    refine ⟨_, 0, _, 1, rfl, by simp, blk_cell h2 4, blk_cell h2 5, blk_cell h2 6, blk_cell h2 7, by simp, by omega, by simp, fun f x hx => ?_⟩
    match f with
    | 0 => obtain rfl : (-7 : Int) = x := by simpa using hx
           exact ⟨_, 0, rfl, by simp <;> omega, blk_cell h1 0⟩
    | f + 1 => simp at hx
  | i + 2 => simp [rsK] at hi
set_option maxRecDepth 100000 in
set_option maxHeartbeats 4000000 in
theorem known_any (w : World) : Calls Try.prog 24 #[] w fun e w' => e = .returned (.bool true) ∧ Below w.heap.size w w' := by
  have HB0 := Lib.hid (show Below w.heap.size w (((w.alloc (.cells #[.int .i64 (-5), .int .i64 0] 3)).alloc (.cells #[.int .i64 (-7)] 3)).alloc (.cells #[.int .i64 0, .int .i64 0, .slice (some ⟨w.heap.size, 0, none⟩) 2 2, .int .i64 0, .int .i64 0, .int .i64 0, .slice (some ⟨w.heap.size + 1, 0, none⟩) 1 1, .int .i64 0] 71)) from (((Below.refl _ w).alloc (Nat.le_refl _) _).alloc (by simp) _).alloc (by simp; omega) _)
  have HA := Lib.hid (heap_any (c := 2) (arg_lit w))
  go_enter Try.func24, Try.ntmps24
  go_wp2_with fail
  refine HA.out.mono ?_
  rintro e w1 ⟨a1, c1, rfl, ho1, hb1⟩
  rw [rsK_few] at ho1 ⊢
  rw [rsK_W]
  have HO1 := Lib.hid ho1
  have HB1 := Lib.hid (HB0.out.trans (hb1.mono HB0.out.size))
  clear ho1 hb1 HA HB0
  have HMD := Lib.hid (made_any (c := c1) HO1.out (by have := heapR rsK_in; rw [rsK_W] at this; exact this))
  go_wp2_with fail
  refine HMD.out.mono ?_
  rintro e w2 ⟨rfl, R2, m2⟩
  rw [rsK_obs] at m2
  have hpn : ((some (⟨w1.heap.size, 0, none⟩ : Addr)) == none) = false := rfl
  have HM2 := Lib.hid m2
  have HB2 := Lib.hid (HB1.out.trans (m2.fr.mono HB1.out.size))
  clear m2 HMD
  have HL := Lib.hid (live_any (c := 1) (HM2.out.m.below ((Below.refl _ w2).alloc (Nat.le_refl _) (.cells #[.int .u64 ((2 : Nat) : Int)] 56))) HM2.out.z (words_lit w2 2 (by decide)))
  rw [osK_live, osK_check] at HL
  go_wp2_with fail
  refine HL.out.mono ?_
  rintro e w3 ⟨rfl, hb3⟩
  have hb3' : Below w2.heap.size w2 w3 := ((Below.refl _ w2).alloc (Nat.le_refl _) _).trans (hb3.mono (by simp))
  have HM3 := Lib.hid (HM2.out.m.below hb3')
  have HB3 := Lib.hid (HB2.out.trans (hb3'.mono HB2.out.size))
  have hs3 := hb3'.size
  have HCO := Lib.hid (collect_any (c := 1) (HM3.out.below ((Below.refl _ w3).alloc (Nat.le_refl _) (.cells #[.int .u64 ((2 : Nat) : Int)] 56))) HM2.out.z (words_lit w3 2 (by decide)) (fun g off hg q => by
    have h1 := HM3.out.own_lt g q
    injection hg with hg
    injection hg with h2
    omega) (by decide))
  have HBa := Lib.hid ((Below.refl w3.heap.size w3).alloc (Nat.le_refl _) (.cells #[.int .u64 ((2 : Nat) : Int)] 56))
  clear hb3 hb3' HL
  go_wp2_with fail
  refine HCO.out.mono ?_
  rintro e w4 (⟨hr, _⟩ | ⟨met, v, R4, hr, rfl, x4, ho4, _⟩)
  · rw [osK_reach] at hr; cases hr
  · rw [osK_reach] at hr
    obtain rfl : [0] = met := Option.some.inj hr
    obtain ⟨av, cv, rfl, _, _⟩ := own_shape5 (own_mono ho4 (Nat.zero_le _))
    have HHF := Lib.hid (half_any x4.m)
    have HFR := Lib.hid (free_m x4.m x4.z osK_used 66 (by decide))
    have HB4 := Lib.hid (show Below w.heap.size w w4 from by
      refine HB3.out.trans ((HBa.out.mono HB3.out.size).trans (x4.fr.below (by have := HB3.out.size; have := HBa.out.size; omega) (fun i hi => ?_)))
      have h1 := HM2.out.ge i hi
      have := HB1.out.size
      omega)
    clear hr x4 ho4 HCO HBa
    go_wp2_with fail
    refine HHF.out.mono ?_
    rintro e w5 ⟨rfl, hw5⟩
    subst w5
    go_wp2_with fail
    refine HFR.out.mono ?_
    rintro e w5 ⟨rfl, n5, hw5⟩
    have HB5 := Lib.hid (show Below w.heap.size w w5 from by rw [hw5]; exact ⟨HB4.out.os, HB4.out.tape, HB4.out.output, HB4.out.size, HB4.out.block⟩)
    clear hw5
    go_wp2_with fail
    go_ret
    exact ⟨rfl, HB5.out⟩
end Go.Proofs.Ytjdhjehnofediaa
