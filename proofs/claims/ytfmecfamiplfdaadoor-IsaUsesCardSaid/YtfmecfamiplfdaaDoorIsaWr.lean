/- isa.Writes of any instruction. Condition: the table of operations reads as it is laid. -/
import Derived.Test.YtfmecfamiplfdaaDoorIsaRd
namespace Go.Proofs.YtfmecfamiplfdaaDoor
open Go Go.RowKit
set_option maxHeartbeats 1000000 in
theorem writes_bad (o a b c n : Int) (hc : chkOf o a b c n ≠ 0) : ReadsP 20 o a b c n [] := fun w ho => by
  obtain ⟨E, hE⟩ : ∃ E, chkOf o a b c n = E := ⟨_, rfl⟩
  have HE := Lib.hid hE
  have HO := Lib.hid ho
  rw [hE] at hc
  have hcb : (E != 0) = true := by simpa using hc
  clear hE hc ho
  go_enter Tryd.func20, Tryd.ntmps20
  go_wp2_with fail
  refine (check_any o a b c n _ (ops_below HO.out (Nat.le_refl _) ((Below.refl w.heap.size w).alloc (Nat.le_refl _) _))).mono ?_
  rintro e w1 ⟨rfl, hb⟩
  rw [HE.out]
  have HB := Lib.hid (((Below.refl w.heap.size w).alloc (Nat.le_refl _) (.cells #[.int .i64 o, .int .i64 a, .int .i64 b, .int .i64 c, .int .i64 n] 30)).trans (hb.mono (by simp)))
  clear hb
  go_wp2_with fail
  go_ret
  exact ⟨⟨_, rfl, .inl ⟨rfl, rfl⟩⟩, HB.out⟩
set_option maxRecDepth 100000 in
set_option maxHeartbeats 1000000 in
theorem writes_1 (a b c n : Int) (hc : chkOf 1 a b c n = 0) : ReadsP 20 1 a b c n [a] := fun w ho => by
  have HC := Lib.hid hc
  have HO := Lib.hid ho
  clear hc ho
  have bq : bits BinOp.and IntKind.i64 9 1 = 1 := by decide
  go_enter Tryd.func20, Tryd.ntmps20
  go_wp2_with fail
  refine (check_any 1 a b c n _ (ops_below HO.out (Nat.le_refl _) ((Below.refl w.heap.size w).alloc (Nat.le_refl _) _))).mono ?_
  rintro e w1 ⟨rfl, hb⟩
  rw [HC.out]
  have HB := Lib.hid (((Below.refl w.heap.size w).alloc (Nat.le_refl _) (.cells #[.int .i64 1, .int .i64 a, .int .i64 b, .int .i64 c, .int .i64 n] 30)).trans (hb.mono (by simp)))
  obtain ⟨d0, d1, d2, d3, d4⟩ := ins_cells hb
  have po : w1.cell? ⟨0, 3, none⟩ = some (.int .i64 9) := (ops_below HO.out (Nat.le_refl _) HB.out 1 (by decide)).2
  clear hb
  go_wp2_with fail
  go_ret
  exact ⟨⟨_, rfl, newrow_alloc HB.out a [] (by simp) _⟩, HB.out.alloc HB.out.size _⟩
set_option maxRecDepth 100000 in
set_option maxHeartbeats 1000000 in
theorem writes_2 (a b c n : Int) (hc : chkOf 2 a b c n = 0) : ReadsP 20 2 a b c n [a] := fun w ho => by
  have HC := Lib.hid hc
  have HO := Lib.hid ho
  clear hc ho
  have bq : bits BinOp.and IntKind.i64 9 1 = 1 := by decide
  go_enter Tryd.func20, Tryd.ntmps20
  go_wp2_with fail
  refine (check_any 2 a b c n _ (ops_below HO.out (Nat.le_refl _) ((Below.refl w.heap.size w).alloc (Nat.le_refl _) _))).mono ?_
  rintro e w1 ⟨rfl, hb⟩
  rw [HC.out]
  have HB := Lib.hid (((Below.refl w.heap.size w).alloc (Nat.le_refl _) (.cells #[.int .i64 2, .int .i64 a, .int .i64 b, .int .i64 c, .int .i64 n] 30)).trans (hb.mono (by simp)))
  obtain ⟨d0, d1, d2, d3, d4⟩ := ins_cells hb
  have po : w1.cell? ⟨0, 5, none⟩ = some (.int .i64 9) := (ops_below HO.out (Nat.le_refl _) HB.out 2 (by decide)).2
  clear hb
  go_wp2_with fail
  go_ret
  exact ⟨⟨_, rfl, newrow_alloc HB.out a [] (by simp) _⟩, HB.out.alloc HB.out.size _⟩
set_option maxRecDepth 100000 in
set_option maxHeartbeats 1000000 in
theorem writes_3 (a b c n : Int) (hc : chkOf 3 a b c n = 0) : ReadsP 20 3 a b c n [a] := fun w ho => by
  have HC := Lib.hid hc
  have HO := Lib.hid ho
  clear hc ho
  have bq : bits BinOp.and IntKind.i64 3 1 = 1 := by decide
  go_enter Tryd.func20, Tryd.ntmps20
  go_wp2_with fail
  refine (check_any 3 a b c n _ (ops_below HO.out (Nat.le_refl _) ((Below.refl w.heap.size w).alloc (Nat.le_refl _) _))).mono ?_
  rintro e w1 ⟨rfl, hb⟩
  rw [HC.out]
  have HB := Lib.hid (((Below.refl w.heap.size w).alloc (Nat.le_refl _) (.cells #[.int .i64 3, .int .i64 a, .int .i64 b, .int .i64 c, .int .i64 n] 30)).trans (hb.mono (by simp)))
  obtain ⟨d0, d1, d2, d3, d4⟩ := ins_cells hb
  have po : w1.cell? ⟨0, 7, none⟩ = some (.int .i64 3) := (ops_below HO.out (Nat.le_refl _) HB.out 3 (by decide)).2
  clear hb
  go_wp2_with fail
  go_ret
  exact ⟨⟨_, rfl, newrow_alloc HB.out a [] (by simp) _⟩, HB.out.alloc HB.out.size _⟩
set_option maxRecDepth 100000 in
set_option maxHeartbeats 1000000 in
theorem writes_4 (a b c n : Int) (hc : chkOf 4 a b c n = 0) : ReadsP 20 4 a b c n [] := fun w ho => by
  have HC := Lib.hid hc
  have HO := Lib.hid ho
  clear hc ho
  go_enter Tryd.func20, Tryd.ntmps20
  go_wp2_with fail
  refine (check_any 4 a b c n _ (ops_below HO.out (Nat.le_refl _) ((Below.refl w.heap.size w).alloc (Nat.le_refl _) _))).mono ?_
  rintro e w1 ⟨rfl, hb⟩
  rw [HC.out]
  have HB := Lib.hid (((Below.refl w.heap.size w).alloc (Nat.le_refl _) (.cells #[.int .i64 4, .int .i64 a, .int .i64 b, .int .i64 c, .int .i64 n] 30)).trans (hb.mono (by simp)))
  obtain ⟨d0, d1, d2, d3, d4⟩ := ins_cells hb
  clear hb
  go_wp2_with fail
  go_ret
  exact ⟨⟨_, rfl, .inl ⟨rfl, rfl⟩⟩, HB.out⟩
set_option maxRecDepth 100000 in
set_option maxHeartbeats 1000000 in
theorem writes_5 (a b c n : Int) (hc : chkOf 5 a b c n = 0) : ReadsP 20 5 a b c n [a] := fun w ho => by
  have HC := Lib.hid hc
  have HO := Lib.hid ho
  clear hc ho
  have bq : bits BinOp.and IntKind.i64 9 1 = 1 := by decide
  go_enter Tryd.func20, Tryd.ntmps20
  go_wp2_with fail
  refine (check_any 5 a b c n _ (ops_below HO.out (Nat.le_refl _) ((Below.refl w.heap.size w).alloc (Nat.le_refl _) _))).mono ?_
  rintro e w1 ⟨rfl, hb⟩
  rw [HC.out]
  have HB := Lib.hid (((Below.refl w.heap.size w).alloc (Nat.le_refl _) (.cells #[.int .i64 5, .int .i64 a, .int .i64 b, .int .i64 c, .int .i64 n] 30)).trans (hb.mono (by simp)))
  obtain ⟨d0, d1, d2, d3, d4⟩ := ins_cells hb
  have po : w1.cell? ⟨0, 11, none⟩ = some (.int .i64 9) := (ops_below HO.out (Nat.le_refl _) HB.out 5 (by decide)).2
  clear hb
  go_wp2_with fail
  go_ret
  exact ⟨⟨_, rfl, newrow_alloc HB.out a [] (by simp) _⟩, HB.out.alloc HB.out.size _⟩
set_option maxRecDepth 100000 in
set_option maxHeartbeats 1000000 in
theorem writes_6 (a b c n : Int) (hc : chkOf 6 a b c n = 0) : ReadsP 20 6 a b c n [] := fun w ho => by
  have HC := Lib.hid hc
  have HO := Lib.hid ho
  clear hc ho
  go_enter Tryd.func20, Tryd.ntmps20
  go_wp2_with fail
  refine (check_any 6 a b c n _ (ops_below HO.out (Nat.le_refl _) ((Below.refl w.heap.size w).alloc (Nat.le_refl _) _))).mono ?_
  rintro e w1 ⟨rfl, hb⟩
  rw [HC.out]
  have HB := Lib.hid (((Below.refl w.heap.size w).alloc (Nat.le_refl _) (.cells #[.int .i64 6, .int .i64 a, .int .i64 b, .int .i64 c, .int .i64 n] 30)).trans (hb.mono (by simp)))
  obtain ⟨d0, d1, d2, d3, d4⟩ := ins_cells hb
  clear hb
  go_wp2_with fail
  go_ret
  exact ⟨⟨_, rfl, .inl ⟨rfl, rfl⟩⟩, HB.out⟩
set_option maxRecDepth 100000 in
set_option maxHeartbeats 1000000 in
theorem writes_7 (a b c n : Int) (hc : chkOf 7 a b c n = 0) : ReadsP 20 7 a b c n [a] := fun w ho => by
  have HC := Lib.hid hc
  have HO := Lib.hid ho
  clear hc ho
  have bq : bits BinOp.and IntKind.i64 7 1 = 1 := by decide
  go_enter Tryd.func20, Tryd.ntmps20
  go_wp2_with fail
  refine (check_any 7 a b c n _ (ops_below HO.out (Nat.le_refl _) ((Below.refl w.heap.size w).alloc (Nat.le_refl _) _))).mono ?_
  rintro e w1 ⟨rfl, hb⟩
  rw [HC.out]
  have HB := Lib.hid (((Below.refl w.heap.size w).alloc (Nat.le_refl _) (.cells #[.int .i64 7, .int .i64 a, .int .i64 b, .int .i64 c, .int .i64 n] 30)).trans (hb.mono (by simp)))
  obtain ⟨d0, d1, d2, d3, d4⟩ := ins_cells hb
  have po : w1.cell? ⟨0, 15, none⟩ = some (.int .i64 7) := (ops_below HO.out (Nat.le_refl _) HB.out 7 (by decide)).2
  clear hb
  go_wp2_with fail
  go_ret
  exact ⟨⟨_, rfl, newrow_alloc HB.out a [] (by simp) _⟩, HB.out.alloc HB.out.size _⟩
set_option maxRecDepth 100000 in
set_option maxHeartbeats 1000000 in
theorem writes_8 (a b c n : Int) (hc : chkOf 8 a b c n = 0) : ReadsP 20 8 a b c n [a] := fun w ho => by
  have HC := Lib.hid hc
  have HO := Lib.hid ho
  clear hc ho
  have bq : bits BinOp.and IntKind.i64 7 1 = 1 := by decide
  go_enter Tryd.func20, Tryd.ntmps20
  go_wp2_with fail
  refine (check_any 8 a b c n _ (ops_below HO.out (Nat.le_refl _) ((Below.refl w.heap.size w).alloc (Nat.le_refl _) _))).mono ?_
  rintro e w1 ⟨rfl, hb⟩
  rw [HC.out]
  have HB := Lib.hid (((Below.refl w.heap.size w).alloc (Nat.le_refl _) (.cells #[.int .i64 8, .int .i64 a, .int .i64 b, .int .i64 c, .int .i64 n] 30)).trans (hb.mono (by simp)))
  obtain ⟨d0, d1, d2, d3, d4⟩ := ins_cells hb
  have po : w1.cell? ⟨0, 17, none⟩ = some (.int .i64 7) := (ops_below HO.out (Nat.le_refl _) HB.out 8 (by decide)).2
  clear hb
  go_wp2_with fail
  go_ret
  exact ⟨⟨_, rfl, newrow_alloc HB.out a [] (by simp) _⟩, HB.out.alloc HB.out.size _⟩
set_option maxRecDepth 100000 in
set_option maxHeartbeats 1000000 in
theorem writes_9 (a b c n : Int) (hc : chkOf 9 a b c n = 0) : ReadsP 20 9 a b c n [a] := fun w ho => by
  have HC := Lib.hid hc
  have HO := Lib.hid ho
  clear hc ho
  have bq : bits BinOp.and IntKind.i64 7 1 = 1 := by decide
  go_enter Tryd.func20, Tryd.ntmps20
  go_wp2_with fail
  refine (check_any 9 a b c n _ (ops_below HO.out (Nat.le_refl _) ((Below.refl w.heap.size w).alloc (Nat.le_refl _) _))).mono ?_
  rintro e w1 ⟨rfl, hb⟩
  rw [HC.out]
  have HB := Lib.hid (((Below.refl w.heap.size w).alloc (Nat.le_refl _) (.cells #[.int .i64 9, .int .i64 a, .int .i64 b, .int .i64 c, .int .i64 n] 30)).trans (hb.mono (by simp)))
  obtain ⟨d0, d1, d2, d3, d4⟩ := ins_cells hb
  have po : w1.cell? ⟨0, 19, none⟩ = some (.int .i64 7) := (ops_below HO.out (Nat.le_refl _) HB.out 9 (by decide)).2
  clear hb
  go_wp2_with fail
  go_ret
  exact ⟨⟨_, rfl, newrow_alloc HB.out a [] (by simp) _⟩, HB.out.alloc HB.out.size _⟩
set_option maxRecDepth 100000 in
set_option maxHeartbeats 1000000 in
theorem writes_10 (a b c n : Int) (hc : chkOf 10 a b c n = 0) : ReadsP 20 10 a b c n [a] := fun w ho => by
  have HC := Lib.hid hc
  have HO := Lib.hid ho
  clear hc ho
  have bq : bits BinOp.and IntKind.i64 7 1 = 1 := by decide
  go_enter Tryd.func20, Tryd.ntmps20
  go_wp2_with fail
  refine (check_any 10 a b c n _ (ops_below HO.out (Nat.le_refl _) ((Below.refl w.heap.size w).alloc (Nat.le_refl _) _))).mono ?_
  rintro e w1 ⟨rfl, hb⟩
  rw [HC.out]
  have HB := Lib.hid (((Below.refl w.heap.size w).alloc (Nat.le_refl _) (.cells #[.int .i64 10, .int .i64 a, .int .i64 b, .int .i64 c, .int .i64 n] 30)).trans (hb.mono (by simp)))
  obtain ⟨d0, d1, d2, d3, d4⟩ := ins_cells hb
  have po : w1.cell? ⟨0, 21, none⟩ = some (.int .i64 7) := (ops_below HO.out (Nat.le_refl _) HB.out 10 (by decide)).2
  clear hb
  go_wp2_with fail
  go_ret
  exact ⟨⟨_, rfl, newrow_alloc HB.out a [] (by simp) _⟩, HB.out.alloc HB.out.size _⟩
set_option maxRecDepth 100000 in
set_option maxHeartbeats 1000000 in
theorem writes_11 (a b c n : Int) (hc : chkOf 11 a b c n = 0) : ReadsP 20 11 a b c n [a] := fun w ho => by
  have HC := Lib.hid hc
  have HO := Lib.hid ho
  clear hc ho
  have bq : bits BinOp.and IntKind.i64 7 1 = 1 := by decide
  go_enter Tryd.func20, Tryd.ntmps20
  go_wp2_with fail
  refine (check_any 11 a b c n _ (ops_below HO.out (Nat.le_refl _) ((Below.refl w.heap.size w).alloc (Nat.le_refl _) _))).mono ?_
  rintro e w1 ⟨rfl, hb⟩
  rw [HC.out]
  have HB := Lib.hid (((Below.refl w.heap.size w).alloc (Nat.le_refl _) (.cells #[.int .i64 11, .int .i64 a, .int .i64 b, .int .i64 c, .int .i64 n] 30)).trans (hb.mono (by simp)))
  obtain ⟨d0, d1, d2, d3, d4⟩ := ins_cells hb
  have po : w1.cell? ⟨0, 23, none⟩ = some (.int .i64 7) := (ops_below HO.out (Nat.le_refl _) HB.out 11 (by decide)).2
  clear hb
  go_wp2_with fail
  go_ret
  exact ⟨⟨_, rfl, newrow_alloc HB.out a [] (by simp) _⟩, HB.out.alloc HB.out.size _⟩
set_option maxRecDepth 100000 in
set_option maxHeartbeats 1000000 in
theorem writes_12 (a b c n : Int) (hc : chkOf 12 a b c n = 0) : ReadsP 20 12 a b c n [a] := fun w ho => by
  have HC := Lib.hid hc
  have HO := Lib.hid ho
  clear hc ho
  have bq : bits BinOp.and IntKind.i64 3 1 = 1 := by decide
  go_enter Tryd.func20, Tryd.ntmps20
  go_wp2_with fail
  refine (check_any 12 a b c n _ (ops_below HO.out (Nat.le_refl _) ((Below.refl w.heap.size w).alloc (Nat.le_refl _) _))).mono ?_
  rintro e w1 ⟨rfl, hb⟩
  rw [HC.out]
  have HB := Lib.hid (((Below.refl w.heap.size w).alloc (Nat.le_refl _) (.cells #[.int .i64 12, .int .i64 a, .int .i64 b, .int .i64 c, .int .i64 n] 30)).trans (hb.mono (by simp)))
  obtain ⟨d0, d1, d2, d3, d4⟩ := ins_cells hb
  have po : w1.cell? ⟨0, 25, none⟩ = some (.int .i64 3) := (ops_below HO.out (Nat.le_refl _) HB.out 12 (by decide)).2
  clear hb
  go_wp2_with fail
  go_ret
  exact ⟨⟨_, rfl, newrow_alloc HB.out a [] (by simp) _⟩, HB.out.alloc HB.out.size _⟩
set_option maxRecDepth 100000 in
set_option maxHeartbeats 1000000 in
theorem writes_13 (a b c n : Int) (hc : chkOf 13 a b c n = 0) : ReadsP 20 13 a b c n [a] := fun w ho => by
  have HC := Lib.hid hc
  have HO := Lib.hid ho
  clear hc ho
  have bq : bits BinOp.and IntKind.i64 7 1 = 1 := by decide
  go_enter Tryd.func20, Tryd.ntmps20
  go_wp2_with fail
  refine (check_any 13 a b c n _ (ops_below HO.out (Nat.le_refl _) ((Below.refl w.heap.size w).alloc (Nat.le_refl _) _))).mono ?_
  rintro e w1 ⟨rfl, hb⟩
  rw [HC.out]
  have HB := Lib.hid (((Below.refl w.heap.size w).alloc (Nat.le_refl _) (.cells #[.int .i64 13, .int .i64 a, .int .i64 b, .int .i64 c, .int .i64 n] 30)).trans (hb.mono (by simp)))
  obtain ⟨d0, d1, d2, d3, d4⟩ := ins_cells hb
  have po : w1.cell? ⟨0, 27, none⟩ = some (.int .i64 7) := (ops_below HO.out (Nat.le_refl _) HB.out 13 (by decide)).2
  clear hb
  go_wp2_with fail
  go_ret
  exact ⟨⟨_, rfl, newrow_alloc HB.out a [] (by simp) _⟩, HB.out.alloc HB.out.size _⟩
set_option maxRecDepth 100000 in
set_option maxHeartbeats 1000000 in
theorem writes_14 (a b c n : Int) (hc : chkOf 14 a b c n = 0) : ReadsP 20 14 a b c n [a] := fun w ho => by
  have HC := Lib.hid hc
  have HO := Lib.hid ho
  clear hc ho
  have bq : bits BinOp.and IntKind.i64 7 1 = 1 := by decide
  go_enter Tryd.func20, Tryd.ntmps20
  go_wp2_with fail
  refine (check_any 14 a b c n _ (ops_below HO.out (Nat.le_refl _) ((Below.refl w.heap.size w).alloc (Nat.le_refl _) _))).mono ?_
  rintro e w1 ⟨rfl, hb⟩
  rw [HC.out]
  have HB := Lib.hid (((Below.refl w.heap.size w).alloc (Nat.le_refl _) (.cells #[.int .i64 14, .int .i64 a, .int .i64 b, .int .i64 c, .int .i64 n] 30)).trans (hb.mono (by simp)))
  obtain ⟨d0, d1, d2, d3, d4⟩ := ins_cells hb
  have po : w1.cell? ⟨0, 29, none⟩ = some (.int .i64 7) := (ops_below HO.out (Nat.le_refl _) HB.out 14 (by decide)).2
  clear hb
  go_wp2_with fail
  go_ret
  exact ⟨⟨_, rfl, newrow_alloc HB.out a [] (by simp) _⟩, HB.out.alloc HB.out.size _⟩
set_option maxRecDepth 100000 in
set_option maxHeartbeats 1000000 in
theorem writes_15 (a b c n : Int) (hc : chkOf 15 a b c n = 0) : ReadsP 20 15 a b c n [a] := fun w ho => by
  have HC := Lib.hid hc
  have HO := Lib.hid ho
  clear hc ho
  have bq : bits BinOp.and IntKind.i64 7 1 = 1 := by decide
  go_enter Tryd.func20, Tryd.ntmps20
  go_wp2_with fail
  refine (check_any 15 a b c n _ (ops_below HO.out (Nat.le_refl _) ((Below.refl w.heap.size w).alloc (Nat.le_refl _) _))).mono ?_
  rintro e w1 ⟨rfl, hb⟩
  rw [HC.out]
  have HB := Lib.hid (((Below.refl w.heap.size w).alloc (Nat.le_refl _) (.cells #[.int .i64 15, .int .i64 a, .int .i64 b, .int .i64 c, .int .i64 n] 30)).trans (hb.mono (by simp)))
  obtain ⟨d0, d1, d2, d3, d4⟩ := ins_cells hb
  have po : w1.cell? ⟨0, 31, none⟩ = some (.int .i64 7) := (ops_below HO.out (Nat.le_refl _) HB.out 15 (by decide)).2
  clear hb
  go_wp2_with fail
  go_ret
  exact ⟨⟨_, rfl, newrow_alloc HB.out a [] (by simp) _⟩, HB.out.alloc HB.out.size _⟩
set_option maxRecDepth 100000 in
set_option maxHeartbeats 1000000 in
theorem writes_16 (a b c n : Int) (hc : chkOf 16 a b c n = 0) : ReadsP 20 16 a b c n [a] := fun w ho => by
  have HC := Lib.hid hc
  have HO := Lib.hid ho
  clear hc ho
  have bq : bits BinOp.and IntKind.i64 9 1 = 1 := by decide
  go_enter Tryd.func20, Tryd.ntmps20
  go_wp2_with fail
  refine (check_any 16 a b c n _ (ops_below HO.out (Nat.le_refl _) ((Below.refl w.heap.size w).alloc (Nat.le_refl _) _))).mono ?_
  rintro e w1 ⟨rfl, hb⟩
  rw [HC.out]
  have HB := Lib.hid (((Below.refl w.heap.size w).alloc (Nat.le_refl _) (.cells #[.int .i64 16, .int .i64 a, .int .i64 b, .int .i64 c, .int .i64 n] 30)).trans (hb.mono (by simp)))
  obtain ⟨d0, d1, d2, d3, d4⟩ := ins_cells hb
  have po : w1.cell? ⟨0, 33, none⟩ = some (.int .i64 9) := (ops_below HO.out (Nat.le_refl _) HB.out 16 (by decide)).2
  clear hb
  go_wp2_with fail
  go_ret
  exact ⟨⟨_, rfl, newrow_alloc HB.out a [] (by simp) _⟩, HB.out.alloc HB.out.size _⟩
set_option maxRecDepth 100000 in
set_option maxHeartbeats 1000000 in
theorem writes_17 (a b c n : Int) (hc : chkOf 17 a b c n = 0) : ReadsP 20 17 a b c n [a] := fun w ho => by
  have HC := Lib.hid hc
  have HO := Lib.hid ho
  clear hc ho
  have bq : bits BinOp.and IntKind.i64 9 1 = 1 := by decide
  go_enter Tryd.func20, Tryd.ntmps20
  go_wp2_with fail
  refine (check_any 17 a b c n _ (ops_below HO.out (Nat.le_refl _) ((Below.refl w.heap.size w).alloc (Nat.le_refl _) _))).mono ?_
  rintro e w1 ⟨rfl, hb⟩
  rw [HC.out]
  have HB := Lib.hid (((Below.refl w.heap.size w).alloc (Nat.le_refl _) (.cells #[.int .i64 17, .int .i64 a, .int .i64 b, .int .i64 c, .int .i64 n] 30)).trans (hb.mono (by simp)))
  obtain ⟨d0, d1, d2, d3, d4⟩ := ins_cells hb
  have po : w1.cell? ⟨0, 35, none⟩ = some (.int .i64 9) := (ops_below HO.out (Nat.le_refl _) HB.out 17 (by decide)).2
  clear hb
  go_wp2_with fail
  go_ret
  exact ⟨⟨_, rfl, newrow_alloc HB.out a [] (by simp) _⟩, HB.out.alloc HB.out.size _⟩
set_option maxRecDepth 100000 in
set_option maxHeartbeats 1000000 in
theorem writes_18 (a b c n : Int) (hc : chkOf 18 a b c n = 0) : ReadsP 20 18 a b c n [a] := fun w ho => by
  have HC := Lib.hid hc
  have HO := Lib.hid ho
  clear hc ho
  have bq : bits BinOp.and IntKind.i64 3 1 = 1 := by decide
  go_enter Tryd.func20, Tryd.ntmps20
  go_wp2_with fail
  refine (check_any 18 a b c n _ (ops_below HO.out (Nat.le_refl _) ((Below.refl w.heap.size w).alloc (Nat.le_refl _) _))).mono ?_
  rintro e w1 ⟨rfl, hb⟩
  rw [HC.out]
  have HB := Lib.hid (((Below.refl w.heap.size w).alloc (Nat.le_refl _) (.cells #[.int .i64 18, .int .i64 a, .int .i64 b, .int .i64 c, .int .i64 n] 30)).trans (hb.mono (by simp)))
  obtain ⟨d0, d1, d2, d3, d4⟩ := ins_cells hb
  have po : w1.cell? ⟨0, 37, none⟩ = some (.int .i64 3) := (ops_below HO.out (Nat.le_refl _) HB.out 18 (by decide)).2
  clear hb
  go_wp2_with fail
  go_ret
  exact ⟨⟨_, rfl, newrow_alloc HB.out a [] (by simp) _⟩, HB.out.alloc HB.out.size _⟩
set_option maxRecDepth 100000 in
set_option maxHeartbeats 1000000 in
theorem writes_19 (a b c n : Int) (hc : chkOf 19 a b c n = 0) : ReadsP 20 19 a b c n [a] := fun w ho => by
  have HC := Lib.hid hc
  have HO := Lib.hid ho
  clear hc ho
  have bq : bits BinOp.and IntKind.i64 11 1 = 1 := by decide
  go_enter Tryd.func20, Tryd.ntmps20
  go_wp2_with fail
  refine (check_any 19 a b c n _ (ops_below HO.out (Nat.le_refl _) ((Below.refl w.heap.size w).alloc (Nat.le_refl _) _))).mono ?_
  rintro e w1 ⟨rfl, hb⟩
  rw [HC.out]
  have HB := Lib.hid (((Below.refl w.heap.size w).alloc (Nat.le_refl _) (.cells #[.int .i64 19, .int .i64 a, .int .i64 b, .int .i64 c, .int .i64 n] 30)).trans (hb.mono (by simp)))
  obtain ⟨d0, d1, d2, d3, d4⟩ := ins_cells hb
  have po : w1.cell? ⟨0, 39, none⟩ = some (.int .i64 11) := (ops_below HO.out (Nat.le_refl _) HB.out 19 (by decide)).2
  clear hb
  go_wp2_with fail
  go_ret
  exact ⟨⟨_, rfl, newrow_alloc HB.out a [] (by simp) _⟩, HB.out.alloc HB.out.size _⟩
set_option maxRecDepth 100000 in
set_option maxHeartbeats 1000000 in
theorem writes_20 (a b c n : Int) (hc : chkOf 20 a b c n = 0) : ReadsP 20 20 a b c n [] := fun w ho => by
  have HC := Lib.hid hc
  have HO := Lib.hid ho
  clear hc ho
  go_enter Tryd.func20, Tryd.ntmps20
  go_wp2_with fail
  refine (check_any 20 a b c n _ (ops_below HO.out (Nat.le_refl _) ((Below.refl w.heap.size w).alloc (Nat.le_refl _) _))).mono ?_
  rintro e w1 ⟨rfl, hb⟩
  rw [HC.out]
  have HB := Lib.hid (((Below.refl w.heap.size w).alloc (Nat.le_refl _) (.cells #[.int .i64 20, .int .i64 a, .int .i64 b, .int .i64 c, .int .i64 n] 30)).trans (hb.mono (by simp)))
  obtain ⟨d0, d1, d2, d3, d4⟩ := ins_cells hb
  clear hb
  go_wp2_with fail
  go_ret
  exact ⟨⟨_, rfl, .inl ⟨rfl, rfl⟩⟩, HB.out⟩
set_option maxRecDepth 100000 in
set_option maxHeartbeats 1000000 in
theorem writes_21 (a b c n : Int) (hc : chkOf 21 a b c n = 0) : ReadsP 20 21 a b c n [] := fun w ho => by
  have HC := Lib.hid hc
  have HO := Lib.hid ho
  clear hc ho
  go_enter Tryd.func20, Tryd.ntmps20
  go_wp2_with fail
  refine (check_any 21 a b c n _ (ops_below HO.out (Nat.le_refl _) ((Below.refl w.heap.size w).alloc (Nat.le_refl _) _))).mono ?_
  rintro e w1 ⟨rfl, hb⟩
  rw [HC.out]
  have HB := Lib.hid (((Below.refl w.heap.size w).alloc (Nat.le_refl _) (.cells #[.int .i64 21, .int .i64 a, .int .i64 b, .int .i64 c, .int .i64 n] 30)).trans (hb.mono (by simp)))
  obtain ⟨d0, d1, d2, d3, d4⟩ := ins_cells hb
  clear hb
  go_wp2_with fail
  go_ret
  exact ⟨⟨_, rfl, .inl ⟨rfl, rfl⟩⟩, HB.out⟩
set_option maxRecDepth 100000 in
set_option maxHeartbeats 1000000 in
theorem writes_22 (a b c n : Int) (hc : chkOf 22 a b c n = 0) : ReadsP 20 22 a b c n [a] := fun w ho => by
  have HC := Lib.hid hc
  have HO := Lib.hid ho
  clear hc ho
  have bq : bits BinOp.and IntKind.i64 3 1 = 1 := by decide
  go_enter Tryd.func20, Tryd.ntmps20
  go_wp2_with fail
  refine (check_any 22 a b c n _ (ops_below HO.out (Nat.le_refl _) ((Below.refl w.heap.size w).alloc (Nat.le_refl _) _))).mono ?_
  rintro e w1 ⟨rfl, hb⟩
  rw [HC.out]
  have HB := Lib.hid (((Below.refl w.heap.size w).alloc (Nat.le_refl _) (.cells #[.int .i64 22, .int .i64 a, .int .i64 b, .int .i64 c, .int .i64 n] 30)).trans (hb.mono (by simp)))
  obtain ⟨d0, d1, d2, d3, d4⟩ := ins_cells hb
  have po : w1.cell? ⟨0, 45, none⟩ = some (.int .i64 3) := (ops_below HO.out (Nat.le_refl _) HB.out 22 (by decide)).2
  clear hb
  go_wp2_with fail
  go_ret
  exact ⟨⟨_, rfl, newrow_alloc HB.out a [] (by simp) _⟩, HB.out.alloc HB.out.size _⟩
set_option maxRecDepth 100000 in
set_option maxHeartbeats 1000000 in
theorem writes_23 (a b c n : Int) (hc : chkOf 23 a b c n = 0) : ReadsP 20 23 a b c n [] := fun w ho => by
  have HC := Lib.hid hc
  have HO := Lib.hid ho
  clear hc ho
  have bq : bits BinOp.and IntKind.i64 8 1 = 0 := by decide
  go_enter Tryd.func20, Tryd.ntmps20
  go_wp2_with fail
  refine (check_any 23 a b c n _ (ops_below HO.out (Nat.le_refl _) ((Below.refl w.heap.size w).alloc (Nat.le_refl _) _))).mono ?_
  rintro e w1 ⟨rfl, hb⟩
  rw [HC.out]
  have HB := Lib.hid (((Below.refl w.heap.size w).alloc (Nat.le_refl _) (.cells #[.int .i64 23, .int .i64 a, .int .i64 b, .int .i64 c, .int .i64 n] 30)).trans (hb.mono (by simp)))
  obtain ⟨d0, d1, d2, d3, d4⟩ := ins_cells hb
  have po : w1.cell? ⟨0, 47, none⟩ = some (.int .i64 8) := (ops_below HO.out (Nat.le_refl _) HB.out 23 (by decide)).2
  clear hb
  go_wp2_with fail
  go_ret
  exact ⟨⟨_, rfl, .inl ⟨rfl, rfl⟩⟩, HB.out⟩
set_option maxRecDepth 100000 in
set_option maxHeartbeats 1000000 in
theorem writes_24 (a b c n : Int) (hc : chkOf 24 a b c n = 0) : ReadsP 20 24 a b c n [] := fun w ho => by
  have HC := Lib.hid hc
  have HO := Lib.hid ho
  clear hc ho
  go_enter Tryd.func20, Tryd.ntmps20
  go_wp2_with fail
  refine (check_any 24 a b c n _ (ops_below HO.out (Nat.le_refl _) ((Below.refl w.heap.size w).alloc (Nat.le_refl _) _))).mono ?_
  rintro e w1 ⟨rfl, hb⟩
  rw [HC.out]
  have HB := Lib.hid (((Below.refl w.heap.size w).alloc (Nat.le_refl _) (.cells #[.int .i64 24, .int .i64 a, .int .i64 b, .int .i64 c, .int .i64 n] 30)).trans (hb.mono (by simp)))
  obtain ⟨d0, d1, d2, d3, d4⟩ := ins_cells hb
  clear hb
  go_wp2_with fail
  go_ret
  exact ⟨⟨_, rfl, .inl ⟨rfl, rfl⟩⟩, HB.out⟩
set_option maxRecDepth 100000 in
set_option maxHeartbeats 1000000 in
theorem writes_25 (a b c n : Int) (hc : chkOf 25 a b c n = 0) : ReadsP 20 25 a b c n [] := fun w ho => by
  have HC := Lib.hid hc
  have HO := Lib.hid ho
  clear hc ho
  have bq : bits BinOp.and IntKind.i64 8 1 = 0 := by decide
  go_enter Tryd.func20, Tryd.ntmps20
  go_wp2_with fail
  refine (check_any 25 a b c n _ (ops_below HO.out (Nat.le_refl _) ((Below.refl w.heap.size w).alloc (Nat.le_refl _) _))).mono ?_
  rintro e w1 ⟨rfl, hb⟩
  rw [HC.out]
  have HB := Lib.hid (((Below.refl w.heap.size w).alloc (Nat.le_refl _) (.cells #[.int .i64 25, .int .i64 a, .int .i64 b, .int .i64 c, .int .i64 n] 30)).trans (hb.mono (by simp)))
  obtain ⟨d0, d1, d2, d3, d4⟩ := ins_cells hb
  have po : w1.cell? ⟨0, 51, none⟩ = some (.int .i64 8) := (ops_below HO.out (Nat.le_refl _) HB.out 25 (by decide)).2
  clear hb
  go_wp2_with fail
  go_ret
  exact ⟨⟨_, rfl, .inl ⟨rfl, rfl⟩⟩, HB.out⟩
set_option maxRecDepth 100000 in
set_option maxHeartbeats 1000000 in
theorem writes_26 (a b c n : Int) (hc : chkOf 26 a b c n = 0) : ReadsP 20 26 a b c n [0] := fun w ho => by
  have HC := Lib.hid hc
  have HO := Lib.hid ho
  clear hc ho
  go_enter Tryd.func20, Tryd.ntmps20
  go_wp2_with fail
  refine (check_any 26 a b c n _ (ops_below HO.out (Nat.le_refl _) ((Below.refl w.heap.size w).alloc (Nat.le_refl _) _))).mono ?_
  rintro e w1 ⟨rfl, hb⟩
  rw [HC.out]
  have HB := Lib.hid (((Below.refl w.heap.size w).alloc (Nat.le_refl _) (.cells #[.int .i64 26, .int .i64 a, .int .i64 b, .int .i64 c, .int .i64 n] 30)).trans (hb.mono (by simp)))
  obtain ⟨d0, d1, d2, d3, d4⟩ := ins_cells hb
  clear hb
  go_wp2_with fail
  go_ret
  exact ⟨⟨_, rfl, newrow_alloc HB.out 0 [] (by simp) _⟩, HB.out.alloc HB.out.size _⟩
set_option maxRecDepth 100000 in
set_option maxHeartbeats 1000000 in
theorem writes_27 (a b c n : Int) (hc : chkOf 27 a b c n = 0) : ReadsP 20 27 a b c n [] := fun w ho => by
  have HC := Lib.hid hc
  have HO := Lib.hid ho
  clear hc ho
  go_enter Tryd.func20, Tryd.ntmps20
  go_wp2_with fail
  refine (check_any 27 a b c n _ (ops_below HO.out (Nat.le_refl _) ((Below.refl w.heap.size w).alloc (Nat.le_refl _) _))).mono ?_
  rintro e w1 ⟨rfl, hb⟩
  rw [HC.out]
  have HB := Lib.hid (((Below.refl w.heap.size w).alloc (Nat.le_refl _) (.cells #[.int .i64 27, .int .i64 a, .int .i64 b, .int .i64 c, .int .i64 n] 30)).trans (hb.mono (by simp)))
  obtain ⟨d0, d1, d2, d3, d4⟩ := ins_cells hb
  clear hb
  go_wp2_with fail
  go_ret
  exact ⟨⟨_, rfl, .inl ⟨rfl, rfl⟩⟩, HB.out⟩
set_option maxRecDepth 100000 in
set_option maxHeartbeats 1000000 in
theorem writes_28 (a b c n : Int) (hc : chkOf 28 a b c n = 0) : ReadsP 20 28 a b c n [] := fun w ho => by
  have HC := Lib.hid hc
  have HO := Lib.hid ho
  clear hc ho
  go_enter Tryd.func20, Tryd.ntmps20
  go_wp2_with fail
  refine (check_any 28 a b c n _ (ops_below HO.out (Nat.le_refl _) ((Below.refl w.heap.size w).alloc (Nat.le_refl _) _))).mono ?_
  rintro e w1 ⟨rfl, hb⟩
  rw [HC.out]
  have HB := Lib.hid (((Below.refl w.heap.size w).alloc (Nat.le_refl _) (.cells #[.int .i64 28, .int .i64 a, .int .i64 b, .int .i64 c, .int .i64 n] 30)).trans (hb.mono (by simp)))
  obtain ⟨d0, d1, d2, d3, d4⟩ := ins_cells hb
  clear hb
  go_wp2_with fail
  go_ret
  exact ⟨⟨_, rfl, .inl ⟨rfl, rfl⟩⟩, HB.out⟩
set_option maxRecDepth 100000 in
set_option maxHeartbeats 1000000 in
theorem writes_29 (a b c n : Int) (hc : chkOf 29 a b c n = 0) : ReadsP 20 29 a b c n [] := fun w ho => by
  have HC := Lib.hid hc
  have HO := Lib.hid ho
  clear hc ho
  have bq : bits BinOp.and IntKind.i64 8 1 = 0 := by decide
  go_enter Tryd.func20, Tryd.ntmps20
  go_wp2_with fail
  refine (check_any 29 a b c n _ (ops_below HO.out (Nat.le_refl _) ((Below.refl w.heap.size w).alloc (Nat.le_refl _) _))).mono ?_
  rintro e w1 ⟨rfl, hb⟩
  rw [HC.out]
  have HB := Lib.hid (((Below.refl w.heap.size w).alloc (Nat.le_refl _) (.cells #[.int .i64 29, .int .i64 a, .int .i64 b, .int .i64 c, .int .i64 n] 30)).trans (hb.mono (by simp)))
  obtain ⟨d0, d1, d2, d3, d4⟩ := ins_cells hb
  have po : w1.cell? ⟨0, 59, none⟩ = some (.int .i64 8) := (ops_below HO.out (Nat.le_refl _) HB.out 29 (by decide)).2
  clear hb
  go_wp2_with fail
  go_ret
  exact ⟨⟨_, rfl, .inl ⟨rfl, rfl⟩⟩, HB.out⟩
set_option maxRecDepth 100000 in
set_option maxHeartbeats 1000000 in
theorem writes_30 (a b c n : Int) (hc : chkOf 30 a b c n = 0) : ReadsP 20 30 a b c n [] := fun w ho => by
  have HC := Lib.hid hc
  have HO := Lib.hid ho
  clear hc ho
  have bq : bits BinOp.and IntKind.i64 0 1 = 0 := by decide
  go_enter Tryd.func20, Tryd.ntmps20
  go_wp2_with fail
  refine (check_any 30 a b c n _ (ops_below HO.out (Nat.le_refl _) ((Below.refl w.heap.size w).alloc (Nat.le_refl _) _))).mono ?_
  rintro e w1 ⟨rfl, hb⟩
  rw [HC.out]
  have HB := Lib.hid (((Below.refl w.heap.size w).alloc (Nat.le_refl _) (.cells #[.int .i64 30, .int .i64 a, .int .i64 b, .int .i64 c, .int .i64 n] 30)).trans (hb.mono (by simp)))
  obtain ⟨d0, d1, d2, d3, d4⟩ := ins_cells hb
  have po : w1.cell? ⟨0, 61, none⟩ = some (.int .i64 0) := (ops_below HO.out (Nat.le_refl _) HB.out 30 (by decide)).2
  clear hb
  go_wp2_with fail
  go_ret
  exact ⟨⟨_, rfl, .inl ⟨rfl, rfl⟩⟩, HB.out⟩
set_option maxRecDepth 100000 in
set_option maxHeartbeats 1000000 in
theorem writes_31 (a b c n : Int) (hc : chkOf 31 a b c n = 0) : ReadsP 20 31 a b c n [] := fun w ho => by
  have HC := Lib.hid hc
  have HO := Lib.hid ho
  clear hc ho
  go_enter Tryd.func20, Tryd.ntmps20
  go_wp2_with fail
  refine (check_any 31 a b c n _ (ops_below HO.out (Nat.le_refl _) ((Below.refl w.heap.size w).alloc (Nat.le_refl _) _))).mono ?_
  rintro e w1 ⟨rfl, hb⟩
  rw [HC.out]
  have HB := Lib.hid (((Below.refl w.heap.size w).alloc (Nat.le_refl _) (.cells #[.int .i64 31, .int .i64 a, .int .i64 b, .int .i64 c, .int .i64 n] 30)).trans (hb.mono (by simp)))
  obtain ⟨d0, d1, d2, d3, d4⟩ := ins_cells hb
  clear hb
  go_wp2_with fail
  go_ret
  exact ⟨⟨_, rfl, .inl ⟨rfl, rfl⟩⟩, HB.out⟩
set_option maxRecDepth 100000 in
set_option maxHeartbeats 1000000 in
theorem writes_32 (a b c n : Int) (hc : chkOf 32 a b c n = 0) : ReadsP 20 32 a b c n [a] := fun w ho => by
  have HC := Lib.hid hc
  have HO := Lib.hid ho
  clear hc ho
  have bq : bits BinOp.and IntKind.i64 7 1 = 1 := by decide
  go_enter Tryd.func20, Tryd.ntmps20
  go_wp2_with fail
  refine (check_any 32 a b c n _ (ops_below HO.out (Nat.le_refl _) ((Below.refl w.heap.size w).alloc (Nat.le_refl _) _))).mono ?_
  rintro e w1 ⟨rfl, hb⟩
  rw [HC.out]
  have HB := Lib.hid (((Below.refl w.heap.size w).alloc (Nat.le_refl _) (.cells #[.int .i64 32, .int .i64 a, .int .i64 b, .int .i64 c, .int .i64 n] 30)).trans (hb.mono (by simp)))
  obtain ⟨d0, d1, d2, d3, d4⟩ := ins_cells hb
  have po : w1.cell? ⟨0, 65, none⟩ = some (.int .i64 7) := (ops_below HO.out (Nat.le_refl _) HB.out 32 (by decide)).2
  clear hb
  go_wp2_with fail
  go_ret
  exact ⟨⟨_, rfl, newrow_alloc HB.out a [] (by simp) _⟩, HB.out.alloc HB.out.size _⟩
set_option maxRecDepth 100000 in
set_option maxHeartbeats 1000000 in
theorem writes_33 (a b c n : Int) (hc : chkOf 33 a b c n = 0) : ReadsP 20 33 a b c n [a] := fun w ho => by
  have HC := Lib.hid hc
  have HO := Lib.hid ho
  clear hc ho
  have bq : bits BinOp.and IntKind.i64 3 1 = 1 := by decide
  go_enter Tryd.func20, Tryd.ntmps20
  go_wp2_with fail
  refine (check_any 33 a b c n _ (ops_below HO.out (Nat.le_refl _) ((Below.refl w.heap.size w).alloc (Nat.le_refl _) _))).mono ?_
  rintro e w1 ⟨rfl, hb⟩
  rw [HC.out]
  have HB := Lib.hid (((Below.refl w.heap.size w).alloc (Nat.le_refl _) (.cells #[.int .i64 33, .int .i64 a, .int .i64 b, .int .i64 c, .int .i64 n] 30)).trans (hb.mono (by simp)))
  obtain ⟨d0, d1, d2, d3, d4⟩ := ins_cells hb
  have po : w1.cell? ⟨0, 67, none⟩ = some (.int .i64 3) := (ops_below HO.out (Nat.le_refl _) HB.out 33 (by decide)).2
  clear hb
  go_wp2_with fail
  go_ret
  exact ⟨⟨_, rfl, newrow_alloc HB.out a [] (by simp) _⟩, HB.out.alloc HB.out.size _⟩
set_option maxRecDepth 100000 in
set_option maxHeartbeats 1000000 in
theorem writes_34 (a b c n : Int) (hc : chkOf 34 a b c n = 0) : ReadsP 20 34 a b c n [a] := fun w ho => by
  have HC := Lib.hid hc
  have HO := Lib.hid ho
  clear hc ho
  have bq : bits BinOp.and IntKind.i64 3 1 = 1 := by decide
  go_enter Tryd.func20, Tryd.ntmps20
  go_wp2_with fail
  refine (check_any 34 a b c n _ (ops_below HO.out (Nat.le_refl _) ((Below.refl w.heap.size w).alloc (Nat.le_refl _) _))).mono ?_
  rintro e w1 ⟨rfl, hb⟩
  rw [HC.out]
  have HB := Lib.hid (((Below.refl w.heap.size w).alloc (Nat.le_refl _) (.cells #[.int .i64 34, .int .i64 a, .int .i64 b, .int .i64 c, .int .i64 n] 30)).trans (hb.mono (by simp)))
  obtain ⟨d0, d1, d2, d3, d4⟩ := ins_cells hb
  have po : w1.cell? ⟨0, 69, none⟩ = some (.int .i64 3) := (ops_below HO.out (Nat.le_refl _) HB.out 34 (by decide)).2
  clear hb
  go_wp2_with fail
  go_ret
  exact ⟨⟨_, rfl, newrow_alloc HB.out a [] (by simp) _⟩, HB.out.alloc HB.out.size _⟩
set_option maxRecDepth 100000 in
set_option maxHeartbeats 1000000 in
theorem writes_35 (a b c n : Int) (hc : chkOf 35 a b c n = 0) : ReadsP 20 35 a b c n [a] := fun w ho => by
  have HC := Lib.hid hc
  have HO := Lib.hid ho
  clear hc ho
  have bq : bits BinOp.and IntKind.i64 7 1 = 1 := by decide
  go_enter Tryd.func20, Tryd.ntmps20
  go_wp2_with fail
  refine (check_any 35 a b c n _ (ops_below HO.out (Nat.le_refl _) ((Below.refl w.heap.size w).alloc (Nat.le_refl _) _))).mono ?_
  rintro e w1 ⟨rfl, hb⟩
  rw [HC.out]
  have HB := Lib.hid (((Below.refl w.heap.size w).alloc (Nat.le_refl _) (.cells #[.int .i64 35, .int .i64 a, .int .i64 b, .int .i64 c, .int .i64 n] 30)).trans (hb.mono (by simp)))
  obtain ⟨d0, d1, d2, d3, d4⟩ := ins_cells hb
  have po : w1.cell? ⟨0, 71, none⟩ = some (.int .i64 7) := (ops_below HO.out (Nat.le_refl _) HB.out 35 (by decide)).2
  clear hb
  go_wp2_with fail
  go_ret
  exact ⟨⟨_, rfl, newrow_alloc HB.out a [] (by simp) _⟩, HB.out.alloc HB.out.size _⟩
set_option maxRecDepth 100000 in
set_option maxHeartbeats 1000000 in
theorem writes_36 (a b c n : Int) (hc : chkOf 36 a b c n = 0) : ReadsP 20 36 a b c n [a] := fun w ho => by
  have HC := Lib.hid hc
  have HO := Lib.hid ho
  clear hc ho
  have bq : bits BinOp.and IntKind.i64 3 1 = 1 := by decide
  go_enter Tryd.func20, Tryd.ntmps20
  go_wp2_with fail
  refine (check_any 36 a b c n _ (ops_below HO.out (Nat.le_refl _) ((Below.refl w.heap.size w).alloc (Nat.le_refl _) _))).mono ?_
  rintro e w1 ⟨rfl, hb⟩
  rw [HC.out]
  have HB := Lib.hid (((Below.refl w.heap.size w).alloc (Nat.le_refl _) (.cells #[.int .i64 36, .int .i64 a, .int .i64 b, .int .i64 c, .int .i64 n] 30)).trans (hb.mono (by simp)))
  obtain ⟨d0, d1, d2, d3, d4⟩ := ins_cells hb
  have po : w1.cell? ⟨0, 73, none⟩ = some (.int .i64 3) := (ops_below HO.out (Nat.le_refl _) HB.out 36 (by decide)).2
  clear hb
  go_wp2_with fail
  go_ret
  exact ⟨⟨_, rfl, newrow_alloc HB.out a [] (by simp) _⟩, HB.out.alloc HB.out.size _⟩
end Go.Proofs.YtfmecfamiplfdaaDoor
