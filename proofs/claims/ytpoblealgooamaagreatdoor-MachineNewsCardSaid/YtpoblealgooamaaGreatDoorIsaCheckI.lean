/- isa.Check of an instruction. Conditions: the table of operations reads as it is laid. -/
import Derived.Test.YtpoblealgooamaaGreatDoorIsaCheckR
namespace Go.Proofs.YtpoblealgooamaaGreatDoor.IsaL
open Go Go.RowKit
set_option maxHeartbeats 1000000 in
theorem refcheck_no (op a b c n : Int) (h : op < 1 ∨ 36 < op) (w : World) :
    Calls Tryz.prog 127 #[.agg #[.int .i64 op, .int .i64 a, .int .i64 b, .int .i64 c, .int .i64 n]] w fun e w' => e = .returned (.int .i64 30) ∧ Below w.heap.size w w' := by
  have HV : Hid (rowV 0 = .agg #[.string ⟨#[]⟩, .string ⟨#[]⟩, .string ⟨#[]⟩, .string ⟨#[]⟩]) := rfl
  go_enter Tryz.func127, Tryz.ntmps127
  go_wp2_with fail
  refine (find_no op h _).mono ?_
  rintro e w1 ⟨rfl, hb1⟩
  rw [HV.out]
  have HB := Lib.hid (((Below.refl w.heap.size w).alloc (Nat.le_refl _) (.cells #[.int .i64 op, .int .i64 a, .int .i64 b, .int .i64 c, .int .i64 n] 66)).trans (hb1.mono (by simp)))
  clear hb1
  go_wp2_with fail
  go_ret
  exact ⟨rfl, HB.out.alloc HB.out.size _⟩
set_option maxHeartbeats 1000000 in
theorem check_no (op a b c n : Int) (h : op < 1 ∨ 36 < op) (w : World) :
    Calls Tryz.prog 72 #[.agg #[.int .i64 op, .int .i64 a, .int .i64 b, .int .i64 c, .int .i64 n]] w fun e w' => e = .returned (.int .i64 30) ∧ Below w.heap.size w w' := by
  go_enter Tryz.func72, Tryz.ntmps72
  go_wp2_with fail
  refine (known_no op h _).mono ?_
  rintro e w1 ⟨rfl, rfl⟩
  go_wp2_with fail
  go_ret
  exact ⟨rfl, (Below.refl w.heap.size w).alloc (Nat.le_refl _) _⟩
theorem ix3 (a b c : Int) (W : World) : (Instr.index 180 (.agg #[.int .i64 a, .int .i64 b, .int .i64 c]) (.int .i64 0)).run Tryz.prog W = .ok (.int .i64 a) W ∧
    (Instr.index 180 (.agg #[.int .i64 a, .int .i64 b, .int .i64 c]) (.int .i64 1)).run Tryz.prog W = .ok (.int .i64 b) W ∧
    (Instr.index 180 (.agg #[.int .i64 a, .int .i64 b, .int .i64 c]) (.int .i64 2)).run Tryz.prog W = .ok (.int .i64 c) W := ⟨by kernel_rfl, by kernel_rfl, by kernel_rfl⟩
theorem ix4 (a b c n : Int) (W : World) : (Instr.index 181 (.agg #[.int .i64 a, .int .i64 b, .int .i64 c, .int .i64 n]) (.int .i64 0)).run Tryz.prog W = .ok (.int .i64 a) W ∧
    (Instr.index 181 (.agg #[.int .i64 a, .int .i64 b, .int .i64 c, .int .i64 n]) (.int .i64 1)).run Tryz.prog W = .ok (.int .i64 b) W ∧
    (Instr.index 181 (.agg #[.int .i64 a, .int .i64 b, .int .i64 c, .int .i64 n]) (.int .i64 2)).run Tryz.prog W = .ok (.int .i64 c) W ∧
    (Instr.index 181 (.agg #[.int .i64 a, .int .i64 b, .int .i64 c, .int .i64 n]) (.int .i64 3)).run Tryz.prog W = .ok (.int .i64 n) W := ⟨by kernel_rfl, by kernel_rfl, by kernel_rfl, by kernel_rfl⟩
theorem pbit_0 : ∀ n, n < 37 → bits BinOp.and IntKind.i64 (((partsOf n : Nat) : Int)) 1 = if hasB (bs (rowOf n).2.1) 97 then 1 else 0
  | 0, _ => by decide
  | 1, _ => by decide
  | 2, _ => by decide
  | 3, _ => by decide
  | 4, _ => by decide
  | 5, _ => by decide
  | 6, _ => by decide
  | 7, _ => by decide
  | 8, _ => by decide
  | 9, _ => by decide
  | 10, _ => by decide
  | 11, _ => by decide
  | 12, _ => by decide
  | 13, _ => by decide
  | 14, _ => by decide
  | 15, _ => by decide
  | 16, _ => by decide
  | 17, _ => by decide
  | 18, _ => by decide
  | 19, _ => by decide
  | 20, _ => by decide
  | 21, _ => by decide
  | 22, _ => by decide
  | 23, _ => by decide
  | 24, _ => by decide
  | 25, _ => by decide
  | 26, _ => by decide
  | 27, _ => by decide
  | 28, _ => by decide
  | 29, _ => by decide
  | 30, _ => by decide
  | 31, _ => by decide
  | 32, _ => by decide
  | 33, _ => by decide
  | 34, _ => by decide
  | 35, _ => by decide
  | 36, _ => by decide
  | n + 37, h => absurd h (by omega)
theorem pbit_1 : ∀ n, n < 37 → bits BinOp.and IntKind.i64 (((partsOf n : Nat) : Int) / 2) 1 = if hasB (bs (rowOf n).2.1) 98 then 1 else 0
  | 0, _ => by decide
  | 1, _ => by decide
  | 2, _ => by decide
  | 3, _ => by decide
  | 4, _ => by decide
  | 5, _ => by decide
  | 6, _ => by decide
  | 7, _ => by decide
  | 8, _ => by decide
  | 9, _ => by decide
  | 10, _ => by decide
  | 11, _ => by decide
  | 12, _ => by decide
  | 13, _ => by decide
  | 14, _ => by decide
  | 15, _ => by decide
  | 16, _ => by decide
  | 17, _ => by decide
  | 18, _ => by decide
  | 19, _ => by decide
  | 20, _ => by decide
  | 21, _ => by decide
  | 22, _ => by decide
  | 23, _ => by decide
  | 24, _ => by decide
  | 25, _ => by decide
  | 26, _ => by decide
  | 27, _ => by decide
  | 28, _ => by decide
  | 29, _ => by decide
  | 30, _ => by decide
  | 31, _ => by decide
  | 32, _ => by decide
  | 33, _ => by decide
  | 34, _ => by decide
  | 35, _ => by decide
  | 36, _ => by decide
  | n + 37, h => absurd h (by omega)
theorem pbit_2 : ∀ n, n < 37 → bits BinOp.and IntKind.i64 (((partsOf n : Nat) : Int) / 4) 1 = if hasB (bs (rowOf n).2.1) 99 then 1 else 0
  | 0, _ => by decide
  | 1, _ => by decide
  | 2, _ => by decide
  | 3, _ => by decide
  | 4, _ => by decide
  | 5, _ => by decide
  | 6, _ => by decide
  | 7, _ => by decide
  | 8, _ => by decide
  | 9, _ => by decide
  | 10, _ => by decide
  | 11, _ => by decide
  | 12, _ => by decide
  | 13, _ => by decide
  | 14, _ => by decide
  | 15, _ => by decide
  | 16, _ => by decide
  | 17, _ => by decide
  | 18, _ => by decide
  | 19, _ => by decide
  | 20, _ => by decide
  | 21, _ => by decide
  | 22, _ => by decide
  | 23, _ => by decide
  | 24, _ => by decide
  | 25, _ => by decide
  | 26, _ => by decide
  | 27, _ => by decide
  | 28, _ => by decide
  | 29, _ => by decide
  | 30, _ => by decide
  | 31, _ => by decide
  | 32, _ => by decide
  | 33, _ => by decide
  | 34, _ => by decide
  | 35, _ => by decide
  | 36, _ => by decide
  | n + 37, h => absurd h (by omega)
theorem pbit_3 : ∀ n, n < 37 → bits BinOp.and IntKind.i64 (((partsOf n : Nat) : Int) / 8) 1 = if hasB (bs (rowOf n).2.1) 110 then 1 else 0
  | 0, _ => by decide
  | 1, _ => by decide
  | 2, _ => by decide
  | 3, _ => by decide
  | 4, _ => by decide
  | 5, _ => by decide
  | 6, _ => by decide
  | 7, _ => by decide
  | 8, _ => by decide
  | 9, _ => by decide
  | 10, _ => by decide
  | 11, _ => by decide
  | 12, _ => by decide
  | 13, _ => by decide
  | 14, _ => by decide
  | 15, _ => by decide
  | 16, _ => by decide
  | 17, _ => by decide
  | 18, _ => by decide
  | 19, _ => by decide
  | 20, _ => by decide
  | 21, _ => by decide
  | 22, _ => by decide
  | 23, _ => by decide
  | 24, _ => by decide
  | 25, _ => by decide
  | 26, _ => by decide
  | 27, _ => by decide
  | 28, _ => by decide
  | 29, _ => by decide
  | 30, _ => by decide
  | 31, _ => by decide
  | 32, _ => by decide
  | 33, _ => by decide
  | 34, _ => by decide
  | 35, _ => by decide
  | 36, _ => by decide
  | n + 37, h => absurd h (by omega)
set_option maxRecDepth 100000 in
set_option maxHeartbeats 4000000 in
theorem check_yes (op : Nat) (h0 : 1 ≤ op) (h1 : op ≤ 36) (a b c n : Int) (w : World) (ho : Ops w) :
    Calls Tryz.prog 72 #[.agg #[.int .i64 op, .int .i64 a, .int .i64 b, .int .i64 c, .int .i64 n]] w fun e w' => e = .returned (.int .i64 (chk (bs (rowOf op).2.1) a b c n)) ∧ Below w.heap.size w w' := by
  have hlt0 := World.block_lt_of_cell? w _ (ho op (by omega)).2
  have hne : w.heap.size ≠ 0 := by have : 0 < w.heap.size := hlt0; omega
  have c0 := (ho op (by omega)).2
  have p0 := pbit_0 op (by omega)
  have p1 := pbit_1 op (by omega)
  have p2 := pbit_2 op (by omega)
  have p3 := pbit_3 op (by omega)
  obtain ⟨P, hP⟩ : ∃ P, partsOf op = P := ⟨_, rfl⟩
  obtain ⟨s, hs⟩ : ∃ s, bs (rowOf op).2.1 = s := ⟨_, rfl⟩
  rw [hP] at c0 p0 p1 p2 p3
  rw [hs] at p0 p1 p2 p3 ⊢
  have HP0 := Lib.hid p0
  have HP1 := Lib.hid p1
  have HP2 := Lib.hid p2
  have HP3 := Lib.hid p3
  clear hP ho hs p0 p1 p2 p3
  have hi0 := fun W => (ix3 a b c W).1
  have hi1 := fun W => (ix3 a b c W).2.1
  have hi2 := fun W => (ix3 a b c W).2.2
  have hj0 := fun W => (ix4 a b c n W).1
  have hj1 := fun W => (ix4 a b c n W).2.1
  have hj2 := fun W => (ix4 a b c n W).2.2.1
  have hj3 := fun W => (ix4 a b c n W).2.2.2
  go_enter Tryz.func72, Tryz.ntmps72
  go_wp2_with fail
  refine (known_yes op (by omega) (by omega) _).mono ?_
  rintro e w1 ⟨rfl, rfl⟩
  go_wp2_with fail
  go_loop [24] (fun i => ∃ k : Nat, k ≤ 3 ∧ i = .int .i64 k ∧ RegsOk s a b c n k) (fun i => 3 - (intOf i).toNat)
  case atStart => exact ⟨0, by omega, rfl, fun _ h => absurd h (by omega)⟩
  case round =>
    obtain ⟨k, hk, rfl, hR⟩ := hrel
    have HR := Lib.hid hR
    clear hR
    by_cases hlt : k < 3
    · obtain rfl | rfl | rfl : k = 0 ∨ k = 1 ∨ k = 2 := by omega
      · have hb := HP0.out
        by_cases hq : hasB s 97 = true
        · rw [if_pos hq] at hb
          have HQ := Lib.hid hq
          clear hq
          by_cases u1 : a < 0
          · have HV : Hid (a < 0 ∨ 15 < a) := .inl u1
            go_wp2_with fail
            go_ret
            exact ⟨ret_int' (chk_31 (regs_hit (n := n) (k := 0) (by omega) (by rw [l97]; exact ⟨HQ.out, HV.out⟩))).symm, (Below.refl w.heap.size w).alloc (Nat.le_refl _) _⟩
          by_cases u2 : 16 ≤ a
          · have HV : Hid (a < 0 ∨ 15 < a) := .inr (by omega)
            go_wp2_with fail
            go_ret
            exact ⟨ret_int' (chk_31 (regs_hit (n := n) (k := 0) (by omega) (by rw [l97]; exact ⟨HQ.out, HV.out⟩))).symm, (Below.refl w.heap.size w).alloc (Nat.le_refl _) _⟩
          have HV : Hid (¬ badR s a 97) := fun h => h.2.elim u1 (fun h => u2 (by omega))
          go_wp2_with fail
          go_round
          case rel => exact ⟨1, by omega, by simp, step_ok HR.out (by rw [l97]; exact HV.out)⟩
          case measure => simp [intOf]
        · have HV : Hid (¬ badR s a 97) := fun h => hq h.1
          rw [if_neg hq] at hb
          clear hq
          go_wp2_with fail
          go_round
          case rel => exact ⟨1, by omega, by simp, step_ok HR.out (by rw [l97]; exact HV.out)⟩
          case measure => simp [intOf]
      · have hb := HP1.out
        by_cases hq : hasB s 98 = true
        · rw [if_pos hq] at hb
          have HQ := Lib.hid hq
          clear hq
          by_cases u1 : b < 0
          · have HV : Hid (b < 0 ∨ 15 < b) := .inl u1
            go_wp2_with fail
            go_ret
            exact ⟨ret_int' (chk_31 (regs_hit (n := n) (k := 1) (by omega) (by rw [l98]; exact ⟨HQ.out, HV.out⟩))).symm, (Below.refl w.heap.size w).alloc (Nat.le_refl _) _⟩
          by_cases u2 : 16 ≤ b
          · have HV : Hid (b < 0 ∨ 15 < b) := .inr (by omega)
            go_wp2_with fail
            go_ret
            exact ⟨ret_int' (chk_31 (regs_hit (n := n) (k := 1) (by omega) (by rw [l98]; exact ⟨HQ.out, HV.out⟩))).symm, (Below.refl w.heap.size w).alloc (Nat.le_refl _) _⟩
          have HV : Hid (¬ badR s b 98) := fun h => h.2.elim u1 (fun h => u2 (by omega))
          go_wp2_with fail
          go_round
          case rel => exact ⟨2, by omega, by simp, step_ok HR.out (by rw [l98]; exact HV.out)⟩
          case measure => simp [intOf]
        · have HV : Hid (¬ badR s b 98) := fun h => hq h.1
          rw [if_neg hq] at hb
          clear hq
          go_wp2_with fail
          go_round
          case rel => exact ⟨2, by omega, by simp, step_ok HR.out (by rw [l98]; exact HV.out)⟩
          case measure => simp [intOf]
      · have hb := HP2.out
        by_cases hq : hasB s 99 = true
        · rw [if_pos hq] at hb
          have HQ := Lib.hid hq
          clear hq
          by_cases u1 : c < 0
          · have HV : Hid (c < 0 ∨ 15 < c) := .inl u1
            go_wp2_with fail
            go_ret
            exact ⟨ret_int' (chk_31 (regs_hit (n := n) (k := 2) (by omega) (by rw [l99]; exact ⟨HQ.out, HV.out⟩))).symm, (Below.refl w.heap.size w).alloc (Nat.le_refl _) _⟩
          by_cases u2 : 16 ≤ c
          · have HV : Hid (c < 0 ∨ 15 < c) := .inr (by omega)
            go_wp2_with fail
            go_ret
            exact ⟨ret_int' (chk_31 (regs_hit (n := n) (k := 2) (by omega) (by rw [l99]; exact ⟨HQ.out, HV.out⟩))).symm, (Below.refl w.heap.size w).alloc (Nat.le_refl _) _⟩
          have HV : Hid (¬ badR s c 99) := fun h => h.2.elim u1 (fun h => u2 (by omega))
          go_wp2_with fail
          go_round
          case rel => exact ⟨3, by omega, by simp, step_ok HR.out (by rw [l99]; exact HV.out)⟩
          case measure => simp [intOf]
        · have HV : Hid (¬ badR s c 99) := fun h => hq h.1
          rw [if_neg hq] at hb
          clear hq
          go_wp2_with fail
          go_round
          case rel => exact ⟨3, by omega, by simp, step_ok HR.out (by rw [l99]; exact HV.out)⟩
          case measure => simp [intOf]
    · obtain rfl : k = 3 := by omega
      have HRE := Lib.hid (regs_end HR.out)
      go_wp2_with fail
      go_loop [51] (fun i => ∃ k : Nat, k ≤ 4 ∧ i = .int .i64 k ∧ ZeroOk s a b c n (min k 3) ∧ (k = 4 → hasB s 110 = true ∨ n = 0)) (fun i => 4 - (intOf i).toNat)
      case atStart => exact ⟨0, by omega, rfl, fun _ h => absurd h (by omega), by omega⟩
      case round =>
      obtain ⟨k, hk, rfl, hZ, hN⟩ := hrel
      have HZ := Lib.hid hZ
      have HN := Lib.hid hN
      clear hZ hN
      by_cases hlt : k < 4
      · obtain rfl | rfl | rfl | rfl : k = 0 ∨ k = 1 ∨ k = 2 ∨ k = 3 := by omega
        · have hb := HP0.out
          by_cases hq : hasB s 97 = true
          · rw [if_pos hq] at hb
            have HV : Hid (¬ (badZ s a 97)) := fun h => by have h1 := h.1; rw [hq] at h1; cases h1
            have HW : Hid (hasB s 97 = true ∨ a = 0) := .inl hq
            clear hq
            go_wp2_with fail
            go_round
            case rel => exact ⟨1, by omega, by simp, step_ok (P := fun j => ¬ badZ s (letterOf a b c n (97 + j)) (97 + j)) (k := 0) HZ.out (by show ¬ badZ s (letterOf a b c n (97 + ((0 : Nat) : Int))) _; rw [l97]; exact HV.out), by omega⟩
            case measure => simp [intOf]
          rw [if_neg hq] at hb
          by_cases hx0 : a = 0
          · have hd : (a != 0) = false := by simpa using hx0
            have HV : Hid (¬ (badZ s a 97)) := fun h => h.2 hx0
            have HW : Hid (hasB s 97 = true ∨ a = 0) := .inr hx0
            clear hq hx0
            go_wp2_with fail
            go_round
            case rel => exact ⟨1, by omega, by simp, step_ok (P := fun j => ¬ badZ s (letterOf a b c n (97 + j)) (97 + j)) (k := 0) HZ.out (by show ¬ badZ s (letterOf a b c n (97 + ((0 : Nat) : Int))) _; rw [l97]; exact HV.out), by omega⟩
            case measure => simp [intOf]
          · have hd : (a != 0) = true := by simpa using hx0
            have HV : Hid (badZ s a 97) := ⟨by simpa using hq, hx0⟩
            clear hq hx0
            go_wp2_with fail
            go_ret
            exact ⟨ret_int' (chk_1 HRE.out (zero_hit (k := 0) (by omega) (by rw [l97]; exact HV.out))).symm, (Below.refl w.heap.size w).alloc (Nat.le_refl _) _⟩
        · have hb := HP1.out
          by_cases hq : hasB s 98 = true
          · rw [if_pos hq] at hb
            have HV : Hid (¬ (badZ s b 98)) := fun h => by have h1 := h.1; rw [hq] at h1; cases h1
            have HW : Hid (hasB s 98 = true ∨ b = 0) := .inl hq
            clear hq
            go_wp2_with fail
            go_round
            case rel => exact ⟨2, by omega, by simp, step_ok (P := fun j => ¬ badZ s (letterOf a b c n (97 + j)) (97 + j)) (k := 1) HZ.out (by show ¬ badZ s (letterOf a b c n (97 + ((1 : Nat) : Int))) _; rw [l98]; exact HV.out), by omega⟩
            case measure => simp [intOf]
          rw [if_neg hq] at hb
          by_cases hx0 : b = 0
          · have hd : (b != 0) = false := by simpa using hx0
            have HV : Hid (¬ (badZ s b 98)) := fun h => h.2 hx0
            have HW : Hid (hasB s 98 = true ∨ b = 0) := .inr hx0
            clear hq hx0
            go_wp2_with fail
            go_round
            case rel => exact ⟨2, by omega, by simp, step_ok (P := fun j => ¬ badZ s (letterOf a b c n (97 + j)) (97 + j)) (k := 1) HZ.out (by show ¬ badZ s (letterOf a b c n (97 + ((1 : Nat) : Int))) _; rw [l98]; exact HV.out), by omega⟩
            case measure => simp [intOf]
          · have hd : (b != 0) = true := by simpa using hx0
            have HV : Hid (badZ s b 98) := ⟨by simpa using hq, hx0⟩
            clear hq hx0
            go_wp2_with fail
            go_ret
            exact ⟨ret_int' (chk_1 HRE.out (zero_hit (k := 1) (by omega) (by rw [l98]; exact HV.out))).symm, (Below.refl w.heap.size w).alloc (Nat.le_refl _) _⟩
        · have hb := HP2.out
          by_cases hq : hasB s 99 = true
          · rw [if_pos hq] at hb
            have HV : Hid (¬ (badZ s c 99)) := fun h => by have h1 := h.1; rw [hq] at h1; cases h1
            have HW : Hid (hasB s 99 = true ∨ c = 0) := .inl hq
            clear hq
            go_wp2_with fail
            go_round
            case rel => exact ⟨3, by omega, by simp, step_ok (P := fun j => ¬ badZ s (letterOf a b c n (97 + j)) (97 + j)) (k := 2) HZ.out (by show ¬ badZ s (letterOf a b c n (97 + ((2 : Nat) : Int))) _; rw [l99]; exact HV.out), by omega⟩
            case measure => simp [intOf]
          rw [if_neg hq] at hb
          by_cases hx0 : c = 0
          · have hd : (c != 0) = false := by simpa using hx0
            have HV : Hid (¬ (badZ s c 99)) := fun h => h.2 hx0
            have HW : Hid (hasB s 99 = true ∨ c = 0) := .inr hx0
            clear hq hx0
            go_wp2_with fail
            go_round
            case rel => exact ⟨3, by omega, by simp, step_ok (P := fun j => ¬ badZ s (letterOf a b c n (97 + j)) (97 + j)) (k := 2) HZ.out (by show ¬ badZ s (letterOf a b c n (97 + ((2 : Nat) : Int))) _; rw [l99]; exact HV.out), by omega⟩
            case measure => simp [intOf]
          · have hd : (c != 0) = true := by simpa using hx0
            have HV : Hid (badZ s c 99) := ⟨by simpa using hq, hx0⟩
            clear hq hx0
            go_wp2_with fail
            go_ret
            exact ⟨ret_int' (chk_1 HRE.out (zero_hit (k := 2) (by omega) (by rw [l99]; exact HV.out))).symm, (Below.refl w.heap.size w).alloc (Nat.le_refl _) _⟩
        · have hb := HP3.out
          by_cases hq : hasB s 110 = true
          · rw [if_pos hq] at hb
            have HV : Hid (¬ (hasB s 110 = false ∧ n ≠ 0)) := fun h => by have h1 := h.1; rw [hq] at h1; cases h1
            have HW : Hid (hasB s 110 = true ∨ n = 0) := .inl hq
            clear hq
            go_wp2_with fail
            go_round
            case rel => exact ⟨4, by omega, by simp, HZ.out, fun _ => HW.out⟩
            case measure => simp [intOf]
          rw [if_neg hq] at hb
          by_cases hx0 : n = 0
          · have hd : (n != 0) = false := by simpa using hx0
            have HV : Hid (¬ (hasB s 110 = false ∧ n ≠ 0)) := fun h => h.2 hx0
            have HW : Hid (hasB s 110 = true ∨ n = 0) := .inr hx0
            clear hq hx0
            go_wp2_with fail
            go_round
            case rel => exact ⟨4, by omega, by simp, HZ.out, fun _ => HW.out⟩
            case measure => simp [intOf]
          · have hd : (n != 0) = true := by simpa using hx0
            have HV : Hid (hasB s 110 = false ∧ n ≠ 0) := ⟨by simpa using hq, hx0⟩
            clear hq hx0
            go_wp2_with fail
            go_ret
            exact ⟨ret_int' (chk_1 HRE.out (.inr (.inr (.inr (.inr HV.out))))).symm, (Below.refl w.heap.size w).alloc (Nat.le_refl _) _⟩
      · obtain rfl : k = 4 := by omega
        by_cases u1 : n < -2147483648
        · have HB : Hid (badN s n) := (HN.out rfl).elim (fun h => .inl ⟨h, .inl u1⟩) (fun h => by omega)
          go_wp2_with fail
          go_ret
          exact ⟨ret_int' (chk_1 HRE.out (.inr (.inr (.inr HB.out)))).symm, (Below.refl w.heap.size w).alloc (Nat.le_refl _) _⟩
        by_cases u2 : 2147483647 < n
        · have HB : Hid (badN s n) := (HN.out rfl).elim (fun h => .inl ⟨h, .inr u2⟩) (fun h => by omega)
          go_wp2_with fail
          go_ret
          exact ⟨ret_int' (chk_1 HRE.out (.inr (.inr (.inr HB.out)))).symm, (Below.refl w.heap.size w).alloc (Nat.le_refl _) _⟩
        · have HB : Hid (¬ badN s n) := fun h => h.elim (fun h => h.2.elim u1 u2) (fun h => (HN.out rfl).elim (fun g => by have h1 := h.1; rw [g] at h1; cases h1) h.2)
          go_wp2_with fail
          go_ret
          exact ⟨ret_int' (chk_0 HRE.out (zero_end HZ.out HB.out)).symm, (Below.refl w.heap.size w).alloc (Nat.le_refl _) _⟩
end Go.Proofs.YtpoblealgooamaaGreatDoor.IsaL
