/- isa.Form of any operation. Condition: the table of operations reads as it is laid. -/
import Derived.Test.YtfmecfamiplfdaaDoorIsaLeaf
import Derived.LoopN
namespace Go.Proofs.YtfmecfamiplfdaaDoor
open Go Go.RowKit
set_option maxRecDepth 100000 in
set_option maxHeartbeats 1000000 in
theorem form_0 (n : Nat) (h0 : 1 ≤ n) (h1 : n ≤ 36) (w : World) (hc : w.cell? ⟨0, n * 2 + 1, none⟩ = some (.int .i64 0)) : Calls Tryd.prog 11 #[.int .i64 n] w fun e w' => e = .returned (.string ⟨#[]⟩) ∧ w' = w := by
  have b0 : bits BinOp.and IntKind.i64 0 1 = 0 := by decide
  have b1 : bits BinOp.and IntKind.i64 (0 / 2) 1 = 0 := by decide
  have b2 : bits BinOp.and IntKind.i64 (0 / 4) 1 = 0 := by decide
  have b3 : bits BinOp.and IntKind.i64 (0 / 8) 1 = 0 := by decide
  go_enter Tryd.func11, Tryd.ntmps11
  go_wp2_with fail
  refine (known_yes n (by omega) (by omega) _).mono ?_
  rintro e w1 ⟨rfl, rfl⟩
  go_wp2_with fail
  refine wp_loop_rounds 5 ?_
  rw [rounds_succ]
  go_wp2_with fail
  rw [rounds_succ]
  go_wp2_with fail
  rw [rounds_succ]
  go_wp2_with fail
  rw [rounds_succ]
  go_wp2_with fail
  rw [rounds_succ]
  go_wp2_with fail
  go_ret
  exact ⟨rfl, rfl⟩
set_option maxRecDepth 100000 in
set_option maxHeartbeats 1000000 in
theorem form_1 (n : Nat) (h0 : 1 ≤ n) (h1 : n ≤ 36) (w : World) (hc : w.cell? ⟨0, n * 2 + 1, none⟩ = some (.int .i64 1)) : Calls Tryd.prog 11 #[.int .i64 n] w fun e w' => e = .returned (.string ⟨#[97]⟩) ∧ w' = w := by
  have b0 : bits BinOp.and IntKind.i64 1 1 = 1 := by decide
  have b1 : bits BinOp.and IntKind.i64 (1 / 2) 1 = 0 := by decide
  have b2 : bits BinOp.and IntKind.i64 (1 / 4) 1 = 0 := by decide
  have b3 : bits BinOp.and IntKind.i64 (1 / 8) 1 = 0 := by decide
  go_enter Tryd.func11, Tryd.ntmps11
  go_wp2_with fail
  refine (known_yes n (by omega) (by omega) _).mono ?_
  rintro e w1 ⟨rfl, rfl⟩
  go_wp2_with fail
  refine wp_loop_rounds 5 ?_
  rw [rounds_succ]
  go_wp2_with fail
  rw [rounds_succ]
  go_wp2_with fail
  rw [rounds_succ]
  go_wp2_with fail
  rw [rounds_succ]
  go_wp2_with fail
  rw [rounds_succ]
  go_wp2_with fail
  go_ret
  exact ⟨rfl, rfl⟩
set_option maxRecDepth 100000 in
set_option maxHeartbeats 1000000 in
theorem form_3 (n : Nat) (h0 : 1 ≤ n) (h1 : n ≤ 36) (w : World) (hc : w.cell? ⟨0, n * 2 + 1, none⟩ = some (.int .i64 3)) : Calls Tryd.prog 11 #[.int .i64 n] w fun e w' => e = .returned (.string ⟨#[97, 98]⟩) ∧ w' = w := by
  have b0 : bits BinOp.and IntKind.i64 3 1 = 1 := by decide
  have b1 : bits BinOp.and IntKind.i64 (3 / 2) 1 = 1 := by decide
  have b2 : bits BinOp.and IntKind.i64 (3 / 4) 1 = 0 := by decide
  have b3 : bits BinOp.and IntKind.i64 (3 / 8) 1 = 0 := by decide
  go_enter Tryd.func11, Tryd.ntmps11
  go_wp2_with fail
  refine (known_yes n (by omega) (by omega) _).mono ?_
  rintro e w1 ⟨rfl, rfl⟩
  go_wp2_with fail
  refine wp_loop_rounds 5 ?_
  rw [rounds_succ]
  go_wp2_with fail
  rw [rounds_succ]
  go_wp2_with fail
  rw [rounds_succ]
  go_wp2_with fail
  rw [rounds_succ]
  go_wp2_with fail
  rw [rounds_succ]
  go_wp2_with fail
  go_ret
  exact ⟨rfl, rfl⟩
set_option maxRecDepth 100000 in
set_option maxHeartbeats 1000000 in
theorem form_7 (n : Nat) (h0 : 1 ≤ n) (h1 : n ≤ 36) (w : World) (hc : w.cell? ⟨0, n * 2 + 1, none⟩ = some (.int .i64 7)) : Calls Tryd.prog 11 #[.int .i64 n] w fun e w' => e = .returned (.string ⟨#[97, 98, 99]⟩) ∧ w' = w := by
  have b0 : bits BinOp.and IntKind.i64 7 1 = 1 := by decide
  have b1 : bits BinOp.and IntKind.i64 (7 / 2) 1 = 1 := by decide
  have b2 : bits BinOp.and IntKind.i64 (7 / 4) 1 = 1 := by decide
  have b3 : bits BinOp.and IntKind.i64 (7 / 8) 1 = 0 := by decide
  go_enter Tryd.func11, Tryd.ntmps11
  go_wp2_with fail
  refine (known_yes n (by omega) (by omega) _).mono ?_
  rintro e w1 ⟨rfl, rfl⟩
  go_wp2_with fail
  refine wp_loop_rounds 5 ?_
  rw [rounds_succ]
  go_wp2_with fail
  rw [rounds_succ]
  go_wp2_with fail
  rw [rounds_succ]
  go_wp2_with fail
  rw [rounds_succ]
  go_wp2_with fail
  rw [rounds_succ]
  go_wp2_with fail
  go_ret
  exact ⟨rfl, rfl⟩
set_option maxRecDepth 100000 in
set_option maxHeartbeats 1000000 in
theorem form_8 (n : Nat) (h0 : 1 ≤ n) (h1 : n ≤ 36) (w : World) (hc : w.cell? ⟨0, n * 2 + 1, none⟩ = some (.int .i64 8)) : Calls Tryd.prog 11 #[.int .i64 n] w fun e w' => e = .returned (.string ⟨#[110]⟩) ∧ w' = w := by
  have b0 : bits BinOp.and IntKind.i64 8 1 = 0 := by decide
  have b1 : bits BinOp.and IntKind.i64 (8 / 2) 1 = 0 := by decide
  have b2 : bits BinOp.and IntKind.i64 (8 / 4) 1 = 0 := by decide
  have b3 : bits BinOp.and IntKind.i64 (8 / 8) 1 = 1 := by decide
  go_enter Tryd.func11, Tryd.ntmps11
  go_wp2_with fail
  refine (known_yes n (by omega) (by omega) _).mono ?_
  rintro e w1 ⟨rfl, rfl⟩
  go_wp2_with fail
  refine wp_loop_rounds 5 ?_
  rw [rounds_succ]
  go_wp2_with fail
  rw [rounds_succ]
  go_wp2_with fail
  rw [rounds_succ]
  go_wp2_with fail
  rw [rounds_succ]
  go_wp2_with fail
  rw [rounds_succ]
  go_wp2_with fail
  go_ret
  exact ⟨rfl, rfl⟩
set_option maxRecDepth 100000 in
set_option maxHeartbeats 1000000 in
theorem form_9 (n : Nat) (h0 : 1 ≤ n) (h1 : n ≤ 36) (w : World) (hc : w.cell? ⟨0, n * 2 + 1, none⟩ = some (.int .i64 9)) : Calls Tryd.prog 11 #[.int .i64 n] w fun e w' => e = .returned (.string ⟨#[97, 110]⟩) ∧ w' = w := by
  have b0 : bits BinOp.and IntKind.i64 9 1 = 1 := by decide
  have b1 : bits BinOp.and IntKind.i64 (9 / 2) 1 = 0 := by decide
  have b2 : bits BinOp.and IntKind.i64 (9 / 4) 1 = 0 := by decide
  have b3 : bits BinOp.and IntKind.i64 (9 / 8) 1 = 1 := by decide
  go_enter Tryd.func11, Tryd.ntmps11
  go_wp2_with fail
  refine (known_yes n (by omega) (by omega) _).mono ?_
  rintro e w1 ⟨rfl, rfl⟩
  go_wp2_with fail
  refine wp_loop_rounds 5 ?_
  rw [rounds_succ]
  go_wp2_with fail
  rw [rounds_succ]
  go_wp2_with fail
  rw [rounds_succ]
  go_wp2_with fail
  rw [rounds_succ]
  go_wp2_with fail
  rw [rounds_succ]
  go_wp2_with fail
  go_ret
  exact ⟨rfl, rfl⟩
set_option maxRecDepth 100000 in
set_option maxHeartbeats 1000000 in
theorem form_11 (n : Nat) (h0 : 1 ≤ n) (h1 : n ≤ 36) (w : World) (hc : w.cell? ⟨0, n * 2 + 1, none⟩ = some (.int .i64 11)) : Calls Tryd.prog 11 #[.int .i64 n] w fun e w' => e = .returned (.string ⟨#[97, 98, 110]⟩) ∧ w' = w := by
  have b0 : bits BinOp.and IntKind.i64 11 1 = 1 := by decide
  have b1 : bits BinOp.and IntKind.i64 (11 / 2) 1 = 1 := by decide
  have b2 : bits BinOp.and IntKind.i64 (11 / 4) 1 = 0 := by decide
  have b3 : bits BinOp.and IntKind.i64 (11 / 8) 1 = 1 := by decide
  go_enter Tryd.func11, Tryd.ntmps11
  go_wp2_with fail
  refine (known_yes n (by omega) (by omega) _).mono ?_
  rintro e w1 ⟨rfl, rfl⟩
  go_wp2_with fail
  refine wp_loop_rounds 5 ?_
  rw [rounds_succ]
  go_wp2_with fail
  rw [rounds_succ]
  go_wp2_with fail
  rw [rounds_succ]
  go_wp2_with fail
  rw [rounds_succ]
  go_wp2_with fail
  rw [rounds_succ]
  go_wp2_with fail
  go_ret
  exact ⟨rfl, rfl⟩
theorem form_yes : ∀ n : Nat, 1 ≤ n → n ≤ 36 → ∀ w : World, Ops w → Calls Tryd.prog 11 #[.int .i64 n] w fun e w' => e = .returned (strV (rowOf n).2.1) ∧ w' = w
  | 0, h, _, _, _ => absurd h (by decide)
  | 1, _, _, w, ho => form_9 1 (by decide) (by decide) w (ho 1 (by decide)).2
  | 2, _, _, w, ho => form_9 2 (by decide) (by decide) w (ho 2 (by decide)).2
  | 3, _, _, w, ho => form_3 3 (by decide) (by decide) w (ho 3 (by decide)).2
  | 4, _, _, w, ho => form_9 4 (by decide) (by decide) w (ho 4 (by decide)).2
  | 5, _, _, w, ho => form_9 5 (by decide) (by decide) w (ho 5 (by decide)).2
  | 6, _, _, w, ho => form_9 6 (by decide) (by decide) w (ho 6 (by decide)).2
  | 7, _, _, w, ho => form_7 7 (by decide) (by decide) w (ho 7 (by decide)).2
  | 8, _, _, w, ho => form_7 8 (by decide) (by decide) w (ho 8 (by decide)).2
  | 9, _, _, w, ho => form_7 9 (by decide) (by decide) w (ho 9 (by decide)).2
  | 10, _, _, w, ho => form_7 10 (by decide) (by decide) w (ho 10 (by decide)).2
  | 11, _, _, w, ho => form_7 11 (by decide) (by decide) w (ho 11 (by decide)).2
  | 12, _, _, w, ho => form_3 12 (by decide) (by decide) w (ho 12 (by decide)).2
  | 13, _, _, w, ho => form_7 13 (by decide) (by decide) w (ho 13 (by decide)).2
  | 14, _, _, w, ho => form_7 14 (by decide) (by decide) w (ho 14 (by decide)).2
  | 15, _, _, w, ho => form_7 15 (by decide) (by decide) w (ho 15 (by decide)).2
  | 16, _, _, w, ho => form_9 16 (by decide) (by decide) w (ho 16 (by decide)).2
  | 17, _, _, w, ho => form_9 17 (by decide) (by decide) w (ho 17 (by decide)).2
  | 18, _, _, w, ho => form_3 18 (by decide) (by decide) w (ho 18 (by decide)).2
  | 19, _, _, w, ho => form_11 19 (by decide) (by decide) w (ho 19 (by decide)).2
  | 20, _, _, w, ho => form_11 20 (by decide) (by decide) w (ho 20 (by decide)).2
  | 21, _, _, w, ho => form_3 21 (by decide) (by decide) w (ho 21 (by decide)).2
  | 22, _, _, w, ho => form_3 22 (by decide) (by decide) w (ho 22 (by decide)).2
  | 23, _, _, w, ho => form_8 23 (by decide) (by decide) w (ho 23 (by decide)).2
  | 24, _, _, w, ho => form_9 24 (by decide) (by decide) w (ho 24 (by decide)).2
  | 25, _, _, w, ho => form_8 25 (by decide) (by decide) w (ho 25 (by decide)).2
  | 26, _, _, w, ho => form_3 26 (by decide) (by decide) w (ho 26 (by decide)).2
  | 27, _, _, w, ho => form_3 27 (by decide) (by decide) w (ho 27 (by decide)).2
  | 28, _, _, w, ho => form_1 28 (by decide) (by decide) w (ho 28 (by decide)).2
  | 29, _, _, w, ho => form_8 29 (by decide) (by decide) w (ho 29 (by decide)).2
  | 30, _, _, w, ho => form_0 30 (by decide) (by decide) w (ho 30 (by decide)).2
  | 31, _, _, w, ho => form_1 31 (by decide) (by decide) w (ho 31 (by decide)).2
  | 32, _, _, w, ho => form_7 32 (by decide) (by decide) w (ho 32 (by decide)).2
  | 33, _, _, w, ho => form_3 33 (by decide) (by decide) w (ho 33 (by decide)).2
  | 34, _, _, w, ho => form_3 34 (by decide) (by decide) w (ho 34 (by decide)).2
  | 35, _, _, w, ho => form_7 35 (by decide) (by decide) w (ho 35 (by decide)).2
  | 36, _, _, w, ho => form_3 36 (by decide) (by decide) w (ho 36 (by decide)).2
  | n + 37, _, h, _, _ => absurd h (by omega)
theorem form_no (op : Int) (h : op < 1 ∨ 36 < op) (w : World) : Calls Tryd.prog 11 #[.int .i64 op] w fun e w' => e = .returned (.string ⟨#[]⟩) ∧ w' = w := by
  go_enter Tryd.func11, Tryd.ntmps11
  go_wp2_with fail
  refine (known_no op h _).mono ?_
  rintro e w1 ⟨rfl, rfl⟩
  go_wp2_with fail
  go_ret
  exact ⟨rfl, rfl⟩
end Go.Proofs.YtfmecfamiplfdaaDoor
