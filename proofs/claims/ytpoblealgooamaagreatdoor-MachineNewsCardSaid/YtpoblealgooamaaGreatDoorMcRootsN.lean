/- A new machine's words: none is an object's. Conditions: the machine's cells. -/
import Derived.Test.YtpoblealgooamaaGreatDoorMcNew
import Derived.Test.YtpoblealgooamaaGreatDoorMemThree
namespace Go.Proofs.YtpoblealgooamaaGreatDoor
open Go Go.RowKit
/-- a machine that holds integers alone, no used global, no frame, no slot -/
structure MNew (F : Nat → Value) : Prop where
  rg : ∀ i, i < 16 → F (2 + i) = .int .u64 1
  us : F 1042 = .int .i64 0
  cd : F 1043 = .int .u64 1
  va : F 1044 = .int .u64 1
  fr : F 1045 = .slice none 0 0
  sl : F 1046 = .slice none 0 0
theorem mcN_new (b : Nat) (S : Int) : MNew (mcN b S) := by
  refine ⟨fun i hi => ?_, ?_, ?_, ?_, ?_, ?_⟩
  · unfold mcN mcE
    rw [mup_other (by omega), mup_other (by omega), mup_other (by omega)]
    unfold mcE1
    rw [if_pos (by omega)]
  · unfold mcN mcE
    rw [mup_other (by omega), mup_other (by omega), mup_other (by omega)]
    unfold mcE1 mcG1
    rw [if_neg (by omega), if_neg (by omega)]
    unfold mcF
    rw [mup_other (by omega), mup_other (by omega), mup_other (by omega), mup_other (by omega)]
    rfl
  · unfold mcN mcE
    rw [mup_other (by omega), mup_other (by omega), mup_other (by omega)]
    unfold mcE1 mcG1
    rw [if_neg (by omega), if_neg (by omega)]
    unfold mcF
    rw [mup_other (by omega), mup_same]
  · unfold mcN mcE
    rw [mup_other (by omega), mup_other (by omega), mup_other (by omega)]
    unfold mcE1 mcG1
    rw [if_neg (by omega), if_neg (by omega)]
    unfold mcF
    rw [mup_same]
  · unfold mcN mcE
    rw [mup_other (by omega), mup_other (by omega), mup_same]
  · unfold mcN mcE
    rw [mup_other (by omega), mup_same]
theorem arr3 (a b c : Value) (W : World) : (Instr.index 137 (.agg #[a, b, c]) (.int .i64 0)).run Tryz.prog W = .ok a W ∧ (Instr.index 137 (.agg #[a, b, c]) (.int .i64 1)).run Tryz.prog W = .ok b W ∧ (Instr.index 137 (.agg #[a, b, c]) (.int .i64 2)).run Tryz.prog W = .ok c W := ⟨by kernel_rfl, by kernel_rfl, by kernel_rfl⟩
theorem arr2 (a b : Value) (W : World) : (Instr.index 138 (.agg #[a, b]) (.int .i64 0)).run Tryz.prog W = .ok a W ∧ (Instr.index 138 (.agg #[a, b]) (.int .i64 1)).run Tryz.prog W = .ok b W := ⟨by kernel_rfl, by kernel_rfl⟩
set_option maxRecDepth 100000 in
set_option maxHeartbeats 8000000 in
theorem roots1_new {w : World} {g Bs : Nat} {F : Nat → Value} (hx : Bx w g F) (hm : MNew F) (hb : Boxed w Bs 22 (.pointer (some ⟨g, 0, none⟩))) (y : Value) :
    Calls Tryz.prog 70 #[y, .pointer (some ⟨Bs, 0, none⟩)] w fun e w' => (∃ v, e = .returned v) ∧ ∃ k, w' = w.drewN k := by
  have cB := hb.cell
  have c5 := hx.cell (j := 1045) (by omega)
  rw [hm.fr] at c5
  have c6 := hx.cell (j := 1046) (by omega)
  rw [hm.sl] at c6
  have c2 := hx.cell (j := 1042) (by omega)
  rw [hm.us] at c2
  have c3 := hx.cell (j := 1043) (by omega)
  rw [hm.cd] at c3
  have c4 := hx.cell (j := 1044) (by omega)
  rw [hm.va] at c4
  have HG := Lib.hid (fun i (hi : i < 16) => (hx.cell (j := 2 + i) (by omega)).trans (congrArg some (hm.rg i hi)))
  have HI := Lib.hid (fun Y => isptr_odd 1 (by decide) (by decide) Y)
  have hpn : ((some (⟨g, 0, none⟩ : Addr)) == none) = false := rfl
  have a30 := fun (a b c : Value) W => (arr3 a b c W).1
  have a31 := fun (a b c : Value) W => (arr3 a b c W).2.1
  have a32 := fun (a b c : Value) W => (arr3 a b c W).2.2
  have a20 := fun (a b : Value) W => (arr2 a b W).1
  have a21 := fun (a b : Value) W => (arr2 a b W).2
  clear hx hm hb
  go_enter Tryz.func70, Tryz.ntmps70
  go_wp2_with fail
  go_quiet (fail)
  go_wp2_with fail
  go_loopw [27] (fun i wr => ∃ k n : Nat, k ≤ 3 ∧ i = .int .i64 k ∧ wr = w.drewN n) (fun i _ => 3 - (intOf i).toNat)
  case atStart => exact ⟨0, _, by omega, rfl, rfl⟩
  case round =>
    obtain ⟨k, n, hk, rfl, rfl⟩ := hrel
    rcases (show k = 0 ∨ k = 1 ∨ k = 2 ∨ k = 3 by omega) with rfl | rfl | rfl | rfl
    · go_wp2_with fail
      go_loopw [32] (fun i wr => ∃ j n : Nat, j ≤ 16 ∧ i = .int .i64 j ∧ wr = w.drewN n) (fun i _ => 16 - (intOf i).toNat)
      case atStart => exact ⟨0, _, by omega, rfl, rfl⟩
      case round =>
        obtain ⟨j, n, hj, rfl, rfl⟩ := hrel
        by_cases hlt : j < 16
        · have cj := HG.out j hlt
          have b0 : (0 : Int) ≤ (j : Int) := by omega
          have b1 : (j : Int) < 16 := by omega
          go_wp2_with fail
          refine (HI.out _).mono ?_
          rintro e w1 ⟨rfl, hw1⟩
          subst w1
          go_wp2_with fail
          go_roundw
          case rel =>
            refine ⟨_, _, _, _, _, _, _, _, _, _, _, _, _, _, _, _, _, _, ?_, rfl⟩
            exact ⟨j + 1, _, hlt, by go_num, rfl⟩
          case measure => simp [intOf]; omega
        · obtain rfl : j = 16 := by omega
          go_wp2_with fail
          go_roundw
          case rel => exact ⟨1, _, by omega, rfl, rfl⟩
          case measure => simp [intOf]
    · go_wp2_with fail
      go_loopw [32] (fun i wr => i = .int .i64 0 ∧ ∃ n, wr = w.drewN n) (fun _ _ => 0)
      case atStart => exact ⟨rfl, _, rfl⟩
      case round =>
        obtain ⟨rfl, n, rfl⟩ := hrel
        go_wp2_with fail
        go_roundw
        case rel => exact ⟨2, _, by omega, rfl, rfl⟩
        case measure => simp [intOf]
    · go_wp2_with fail
      go_loopw [32] (fun i wr => i = .int .i64 0 ∧ ∃ n, wr = w.drewN n) (fun _ _ => 0)
      case atStart => exact ⟨rfl, _, rfl⟩
      case round =>
        obtain ⟨rfl, n, rfl⟩ := hrel
        go_wp2_with fail
        go_roundw
        case rel => exact ⟨3, _, by omega, rfl, rfl⟩
        case measure => simp [intOf]
    · go_wp2_with fail
      go_loopw [54] (fun i wr => i = .int .i64 0 ∧ ∃ n, wr = w.drewN n) (fun _ _ => 0)
      case atStart => exact ⟨rfl, _, rfl⟩
      case round =>
        obtain ⟨rfl, n, rfl⟩ := hrel
        go_wp2_with fail
        go_quiet (fail)
        go_wp2_with fail
        rw [World.drewN_drewN]
        go_loopw [75] (fun i wr => ∃ k n : Nat, k ≤ 2 ∧ i = .int .i64 k ∧ wr = w.drewN n) (fun i _ => 2 - (intOf i).toNat)
        case atStart => exact ⟨0, _, by omega, rfl, rfl⟩
        case round =>
          obtain ⟨k, n, hk, rfl, rfl⟩ := hrel
          rcases (show k = 0 ∨ k = 1 ∨ k = 2 by omega) with rfl | rfl | rfl
          · go_wp2_with fail
            refine (HI.out _).mono ?_
            rintro e w1 ⟨rfl, hw1⟩
            subst w1
            go_wp2_with fail
            go_roundw
            case rel =>
              first | refine ⟨_, _, _, _, _, _, _, _, _, _, _, _, _, _, _, ?_, rfl⟩ | refine ⟨_, _, _, _, _, _, _, _, _, _, _, _, _, _, ?_, rfl⟩ | refine ⟨_, _, _, _, _, _, _, _, _, _, _, _, _, _, _, _, ?_, rfl⟩ | refine ⟨_, _, _, _, _, _, _, _, _, _, _, _, _, ?_, rfl⟩
              exact ⟨1, _, by omega, rfl, rfl⟩
            case measure => simp [intOf]
          · go_wp2_with fail
            refine (HI.out _).mono ?_
            rintro e w1 ⟨rfl, hw1⟩
            subst w1
            go_wp2_with fail
            go_roundw
            case rel =>
              first | refine ⟨_, _, _, _, _, _, _, _, _, _, _, _, _, _, _, ?_, rfl⟩ | refine ⟨_, _, _, _, _, _, _, _, _, _, _, _, _, _, ?_, rfl⟩ | refine ⟨_, _, _, _, _, _, _, _, _, _, _, _, _, _, _, _, ?_, rfl⟩ | refine ⟨_, _, _, _, _, _, _, _, _, _, _, _, _, ?_, rfl⟩
              exact ⟨2, _, by omega, rfl, rfl⟩
            case measure => simp [intOf]
          · go_wp2_with fail
            refine bodyPost_end (results_none rfl _ _ _) rfl ?_
            exact ⟨⟨_, rfl⟩, _, rfl⟩
end Go.Proofs.YtpoblealgooamaaGreatDoor
