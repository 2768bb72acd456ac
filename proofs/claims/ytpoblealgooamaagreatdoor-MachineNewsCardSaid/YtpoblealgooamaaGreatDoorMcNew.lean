/- New makes a machine whose cells are told. Conditions: the sizes are right. -/
import Derived.Test.YtpoblealgooamaaGreatDoorMcBox
import Derived.Test.YtpoblealgooamaaGreatDoorNumC
import Derived.Test.YtpoblealgooamaaGreatDoorMemTwo
import Derived.Laws.Tables
import Derived.Deep.RegionHeld3
namespace Go.Proofs.YtpoblealgooamaaGreatDoor
open Go Go.RowKit
def mcZ : Nat → Value := fun j => if j = 0 then .pointer none else if j = 1 then .int .i64 0 else if j < 1042 then .int .u64 0 else if j = 1042 then .int .i64 0 else if j < 1045 then .int .u64 0 else .slice none 0 0
theorem mc_zero : (Tryz.prog.info? 55).bind (·.zero) = some (.agg (mcR 1048 mcZ)) := by kernel_rfl
theorem mcR_size (n : Nat) (F : Nat → Value) : (mcR n F).size = n := by simp [mcR]
def mcF (b : Nat) (S : Int) : Nat → Value := mup (mup (mup (mup mcZ 0 (.pointer (some ⟨b, 0, none⟩))) 1 (.int .i64 S)) 1043 (.int .u64 1)) 1044 (.int .u64 1)
/-- the registers are emptied up to k -/
def mcE1 (F : Nat → Value) (k : Nat) : Nat → Value := fun j => if 2 ≤ j ∧ j < 2 + k then .int .u64 1 else F j
theorem mcE1_zero (F : Nat → Value) : mcE1 F 0 = F := by funext j; unfold mcE1; rw [if_neg (by omega)]
theorem mcE1_next (F : Nat → Value) (k : Nat) : mup (mcE1 F k) (2 + k) (.int .u64 1) = mcE1 F (k + 1) := by
  funext j
  unfold mup mcE1
  by_cases h : j = 2 + k
  · rw [if_pos h, if_pos (by omega)]
  · rw [if_neg h]
    by_cases h2 : 2 ≤ j ∧ j < 2 + k
    · rw [if_pos h2, if_pos (by omega)]
    · rw [if_neg h2, if_neg (by omega)]
def mcE (F : Nat → Value) : Nat → Value := mup (mup (mup (mcE1 F 16) 1045 (.slice none 0 0)) 1046 (.slice none 0 0)) 1047 (.slice none 0 0)
theorem one_any (w : World) : Calls Tryz.prog 19 #[.int .i64 0] w fun e w' => e = .returned (.int .u64 1) ∧ w' = w :=
  (int_any 0 w).mono fun e w' ⟨h1, h2⟩ => ⟨by rw [h1]; rfl, h2.symm⟩
set_option maxRecDepth 100000 in
set_option maxHeartbeats 8000000 in
theorem end_any {w : World} {g : Nat} {F : Nat → Value} (hx : Bx w g F) :
    Calls Tryz.prog 20 #[.pointer (some ⟨g, 0, none⟩)] w fun e w' => (∃ v, e = .returned v) ∧ Bx w' g (mcE F) ∧ Fr (· = g) w w' := by
  have HX := Lib.hid hx
  have HI := Lib.hid one_any
  clear hx
  go_enter Tryz.func20, Tryz.ntmps20
  go_wp2_with fail
  go_loopw [3] (fun i wr => ∃ k : Nat, k ≤ 16 ∧ i = .int .i64 k ∧ Bx wr g (mcE1 F k) ∧ Fr (· = g) w wr) (fun i _ => 16 - (intOf i).toNat)
  case atStart => exact ⟨0, by omega, rfl, by rw [mcE1_zero]; exact HX.out, Fr.refl _ _⟩
  case round =>
    obtain ⟨k, hk, rfl, hX, hfr⟩ := hrel
    by_cases hlt : k < 16
    · have HB := Lib.hid (And.intro hX hfr)
      have c0 := hX.cell (j := 2 + k) (by omega)
      have z0 := hX.frozen (2 + k)
      have b0 : (0 : Int) ≤ (k : Int) := by omega
      have b1 : (k : Int) < 16 := by omega
      clear hX hfr
      go_wp2_with fail
      go_region_held3 (fun _ => True) (trivial) (first | (go_at_call 19; refine (HI.out _).mono ?_; rintro e w' ⟨rfl, hw'⟩; subst w'))
      have HN := Lib.hid (HB.out.1.set (2 + k) (.int .u64 1))
      have HF := Lib.hid ((HB.out.2.setCell (p := ⟨g, 2 + k, none⟩) (.inl rfl) (.int .u64 1)).drew)
      go_wp2_with fail
      go_roundw
      case rel => exact ⟨k + 1, hlt, by go_num, by rw [← mcE1_next]; exact HN.out, HF.out⟩
      case measure => simp [intOf]; omega
    · obtain rfl : k = 16 := by omega
      have c0 := hX.cell (j := 1045) (by omega)
      have c1 := hX.cell (j := 1046) (by omega)
      have c2 := hX.cell (j := 1047) (by omega)
      have z0 := hX.frozen 1045
      have z1 := hX.frozen 1046
      have z2 := hX.frozen 1047
      have HN := Lib.hid (((hX.set 1045 (.slice none 0 0)).set 1046 (.slice none 0 0)).set 1047 (.slice none 0 0))
      have HF := Lib.hid (((hfr.setCell (p := ⟨g, 1045, none⟩) (.inl rfl) (.slice none 0 0)).setCell (p := ⟨g, 1046, none⟩) (.inl rfl) (.slice none 0 0)).setCell (p := ⟨g, 1047, none⟩) (.inl rfl) (.slice none 0 0))
      clear hX hfr
      go_wp2_with fail
      refine bodyPost_end (results_none rfl _ _ _) rfl ?_
      exact ⟨⟨_, rfl⟩, HN.out, HF.out⟩
theorem mc_zc : Tryz.zeroCells55 = mcR 1048 mcZ := by kernel_rfl
theorem mc_new (w : World) (g b : Nat) (S : Int) (hg : w.heap.size = g) : Bx (w.alloc (.cells ((((Tryz.zeroCells55.setIfInBounds 0 (.pointer (some ⟨b, 0, none⟩))).setIfInBounds 1 (.int .i64 S)).setIfInBounds 1043 (.int .u64 1)).setIfInBounds 1044 (.int .u64 1)) 55)) g (mcF b S) := by
  subst hg
  unfold Bx
  rw [mc_zc, mcR_set, mcR_set, mcR_set, mcR_set]
  exact heap_alloc_new w _
/-- the globals are emptied up to k -/
def mcG1 (F : Nat → Value) (k : Nat) : Nat → Value := fun j => if 18 ≤ j ∧ j < 18 + k then .int .u64 1 else F j
theorem mcG1_zero (F : Nat → Value) : mcG1 F 0 = F := by funext j; unfold mcG1; rw [if_neg (by omega)]
theorem mcG1_next (F : Nat → Value) (k : Nat) : mup (mcG1 F k) (18 + k) (.int .u64 1) = mcG1 F (k + 1) := by
  funext j
  unfold mup mcG1
  by_cases h : j = 18 + k
  · rw [if_pos h, if_pos (by omega)]
  · rw [if_neg h]
    by_cases h2 : 18 ≤ j ∧ j < 18 + k
    · rw [if_pos h2, if_pos (by omega)]
    · rw [if_neg h2, if_neg (by omega)]
/-- a new machine's cells -/
def mcN (b : Nat) (S : Int) : Nat → Value := mcE (mcG1 (mcF b S) 1024)
set_option maxRecDepth 100000 in
set_option maxHeartbeats 8000000 in
theorem new_mc (W : Nat) (h0 : 64 ≤ W) (h1 : W ≤ 65536) (S : Int) (s0 : 16 ≤ S) (s1 : S ≤ 65536) (w : World) :
    Calls Tryz.prog 5 #[.int .i64 W, .int .i64 S] w fun e w' => e = .returned (.tuple #[.pointer (some ⟨w.heap.size + 1, 0, none⟩), .int .i64 0]) ∧ Bx w' (w.heap.size + 1) (mcN w.heap.size S) ∧ Mem w' w.heap.size W 0 (fun _ => .slice none 0 0) [] [] ∧ Below w.heap.size w w' := by
  have HI := Lib.hid one_any
  have HN := Lib.hid (new_raw W h0 h1 w)
  have HM := Lib.hid (new_mem W w)
  have hb1 : Below w.heap.size w (w.alloc (newObj W)) := (Below.refl _ w).alloc (Nat.le_refl _) _
  have HB1 := Lib.hid hb1
  have d0 : decide (S < 16) = false := decide_eq_false (by omega)
  have d1 : decide ((65536 : Int) < S) = false := decide_eq_false (by omega)
  obtain ⟨w1, hw1⟩ : ∃ w1, w.alloc (newObj W) = w1 := ⟨_, rfl⟩
  rw [hw1] at HN HM HB1
  have hz1 : w1.heap.size = w.heap.size + 1 := by rw [← hw1]; simp
  clear hb1 hw1 h0 h1
  go_enter Tryz.func5, Tryz.ntmps5
  go_wp2_with fail
  refine HN.out.mono ?_
  rintro e w' ⟨rfl, hw'⟩
  subst w'
  go_wp2_with (go_at_call 19; refine (HI.out _).mono ?_; rintro e w' ⟨rfl, hw'⟩; subst w')
  have hX := mc_new w1 (w.heap.size + 1) w.heap.size S hz1
  obtain ⟨w2, hw2⟩ : ∃ w2, (w1.alloc (.cells ((((Tryz.zeroCells55.setIfInBounds 0 (.pointer (some ⟨w.heap.size, 0, none⟩))).setIfInBounds 1 (.int .i64 S)).setIfInBounds 1043 (.int .u64 1)).setIfInBounds 1044 (.int .u64 1)) 55)) = w2 := ⟨_, rfl⟩
  have hb2 : Below w1.heap.size w1 w2 := by rw [← hw2]; exact (Below.refl _ w1).alloc (Nat.le_refl _) _
  rw [hw2] at hX ⊢
  have HB2 := Lib.hid (HB1.out.trans (hb2.mono HB1.out.size))
  have HM2 := Lib.hid (HM.out.below hb2)
  have HX := Lib.hid hX
  have HX := Lib.hid hX
  have hgw : w.heap.size ≤ w.heap.size + 1 := by omega
  clear hX hb2 hw2 hz1 HN HM HB1
  obtain ⟨g, hg⟩ : ∃ g, w.heap.size + 1 = g := ⟨_, rfl⟩
  rw [hg] at HX hgw ⊢
  have HGB := Lib.hid (show ∀ i, Own w.heap.size (fun _ => Value.slice none 0 0) i → ¬ i = g from fun i hi e => by
    rcases hi with rfl | ⟨r, _, hr⟩
    · omega
    · cases hr)
  have HGEQ := Lib.hid hg
  clear hg
  go_loopw [30] (fun i wr => ∃ k : Nat, k ≤ 1024 ∧ i = .int .i64 k ∧ Bx wr g (mcG1 (mcF w.heap.size S) k) ∧ Below w.heap.size w wr ∧ Mem wr w.heap.size W 0 (fun _ => .slice none 0 0) [] []) (fun i _ => 1024 - (intOf i).toNat)
  case atStart => exact ⟨0, by omega, rfl, by rw [mcG1_zero]; exact HX.out, HB2.out, HM2.out⟩
  case round =>
    obtain ⟨k, hk, rfl, hX, hbl, hm⟩ := hrel
    by_cases hlt : k < 1024
    · have HB := Lib.hid (And.intro hX (And.intro hbl hm))
      have c0 := hX.cell (j := 18 + k) (by omega)
      have z0 := hX.frozen (18 + k)
      have b0 : (0 : Int) ≤ (k : Int) := by omega
      have b1 : (k : Int) < 1024 := by omega
      clear hX hbl hm
      go_wp2_with fail
      go_region_held3 (fun _ => True) (trivial) (first | (go_at_call 19; refine (HI.out _).mono ?_; rintro e w' ⟨rfl, hw'⟩; subst w'))
      have HN := Lib.hid (HB.out.1.set (18 + k) (.int .u64 1))
      have HF := Lib.hid ((HB.out.2.1.setCell (p := ⟨g, 18 + k, none⟩) hgw (.int .u64 1)).drew)
      have HM3 := Lib.hid (HB.out.2.2.kept (((Fr.refl (· = g) wr).setCell (p := ⟨g, 18 + k, none⟩) (.inl rfl) (.int .u64 1)).drew) HGB.out)
      go_wp2_with fail
      go_roundw
      case rel => exact ⟨k + 1, hlt, by go_num, by rw [← mcG1_next]; exact HN.out, HF.out, HM3.out⟩
      case measure => simp [intOf]; omega
    · obtain rfl : k = 1024 := by omega
      have HE := Lib.hid (end_any hX)
      have HBL := Lib.hid hbl
      have HMM := Lib.hid hm
      clear hX hbl hm
      go_wp2_with fail
      refine HE.out.mono ?_
      rintro e w3 ⟨⟨v, rfl⟩, hx3, hf3⟩
      have HX3 := Lib.hid hx3
      have HB3 := Lib.hid (HBL.out.trans (hf3.below HBL.out.size (fun i hi => by rw [hi]; exact hgw)))
      have HM3 := Lib.hid (HMM.out.kept hf3 HGB.out)
      clear hx3 hf3
      go_wp2_with fail
      go_ret2
      obtain rfl := HGEQ.out
      exact ⟨rfl, HX3.out, HM3.out, HB3.out⟩
end Go.Proofs.YtpoblealgooamaaGreatDoor
