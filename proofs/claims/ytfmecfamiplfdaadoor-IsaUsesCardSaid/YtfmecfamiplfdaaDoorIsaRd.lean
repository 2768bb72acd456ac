/- isa.Reads of any instruction. Condition: the table of operations reads as it is laid. -/
import Derived.Test.YtfmecfamiplfdaaDoorIsaEnc
namespace Go.Proofs.YtfmecfamiplfdaaDoor
open Go Go.RowKit
/-- a row of integers in memory, not frozen -/
def RowAt (W : World) (g : Nat) (zs : List Int) : Prop := ∀ j z, zs[j]? = some z → W.cell? ⟨g, j, none⟩ = some (.int .i64 z) ∧ W.frozen? ⟨g, j, none⟩ = false
theorem RowAt.below {W W' : World} {g : Nat} {zs : List Int} (h : RowAt W g zs) (hb : Below W.heap.size W W') : RowAt W' g zs := fun j z hz =>
  have lt := World.block_lt_of_cell? W _ (h j z hz).1
  ⟨(hb.cell (p := ⟨g, j, none⟩) lt).trans (h j z hz).1, (hb.frozen (p := ⟨g, j, none⟩) lt).trans (h j z hz).2⟩
/-- a new row of integers, nil if it is empty -/
def NewRow (w W : World) (v : Value) (zs : List Int) : Prop := (zs = [] ∧ v = .slice none 0 0) ∨ ∃ g cap, v = .slice (some ⟨g, 0, none⟩) zs.length cap ∧ zs.length ≤ cap ∧ cap ≤ 9223372036854775807 ∧ w.heap.size ≤ g ∧ g < W.heap.size ∧ RowAt W g zs
theorem newrow_alloc {w W : World} (hb : Below w.heap.size w W) (x : Int) (l : List Int) (hl : l.length ≤ 100) (t : TypeId) : NewRow w (W.alloc (.cells ((x :: l).map (Value.int .i64)).toArray t)) (.slice (some ⟨W.heap.size, 0, none⟩) (x :: l).length (x :: l).length) (x :: l) := by
  refine .inr ⟨W.heap.size, _, rfl, Nat.le_refl _, by simp; omega, hb.size, by simp, fun j z hz => ?_⟩
  constructor
  · rw [World.cell?_alloc_mark]
    rw [List.getElem?_toArray, List.getElem?_map, hz]; rfl
  · simp
def ReadsP (f : FuncId) (o a b c n : Int) (zs : List Int) : Prop := ∀ w : World, Ops w → Calls Tryd.prog f #[.agg #[.int .i64 o, .int .i64 a, .int .i64 b, .int .i64 c, .int .i64 n]] w fun e w' => (∃ v, e = .returned v ∧ NewRow w w' v zs) ∧ Below w.heap.size w w'
set_option maxHeartbeats 1000000 in
theorem reads_bad (o a b c n : Int) (hc : chkOf o a b c n ≠ 0) : ReadsP 19 o a b c n [] := fun w ho => by
  obtain ⟨E, hE⟩ : ∃ E, chkOf o a b c n = E := ⟨_, rfl⟩
  have HE := Lib.hid hE
  have HO := Lib.hid ho
  rw [hE] at hc
  have hcb : (E != 0) = true := by simpa using hc
  clear hE hc ho
  go_enter Tryd.func19, Tryd.ntmps19
  go_wp2_with fail
  refine (check_any o a b c n _ (ops_below HO.out (Nat.le_refl _) ((Below.refl w.heap.size w).alloc (Nat.le_refl _) _))).mono ?_
  rintro e w1 ⟨rfl, hb⟩
  rw [HE.out]
  have HB := Lib.hid (((Below.refl w.heap.size w).alloc (Nat.le_refl _) (.cells #[.int .i64 o, .int .i64 a, .int .i64 b, .int .i64 c, .int .i64 n] 30)).trans (hb.mono (by simp)))
  clear hb
  go_wp2_with fail
  go_ret
  exact ⟨⟨_, rfl, .inl ⟨rfl, rfl⟩⟩, HB.out⟩
set_option maxRecDepth 100000 in
set_option maxHeartbeats 1000000 in
theorem reads_1 (a b c n : Int) (hc : chkOf 1 a b c n = 0) : ReadsP 19 1 a b c n [] := fun w ho => by
  have HC := Lib.hid hc
  have HO := Lib.hid ho
  clear hc ho
  go_enter Tryd.func19, Tryd.ntmps19
  go_wp2_with fail
  refine (check_any 1 a b c n _ (ops_below HO.out (Nat.le_refl _) ((Below.refl w.heap.size w).alloc (Nat.le_refl _) _))).mono ?_
  rintro e w1 ⟨rfl, hb⟩
  rw [HC.out]
  have HB := Lib.hid (((Below.refl w.heap.size w).alloc (Nat.le_refl _) (.cells #[.int .i64 1, .int .i64 a, .int .i64 b, .int .i64 c, .int .i64 n] 30)).trans (hb.mono (by simp)))
  obtain ⟨d0, d1, d2, d3, d4⟩ := ins_cells hb
  clear hb
  go_wp2_with fail
  go_ret
  exact ⟨⟨_, rfl, .inl ⟨rfl, rfl⟩⟩, HB.out⟩
set_option maxRecDepth 100000 in
set_option maxHeartbeats 1000000 in
theorem reads_2 (a b c n : Int) (hc : chkOf 2 a b c n = 0) : ReadsP 19 2 a b c n [] := fun w ho => by
  have HC := Lib.hid hc
  have HO := Lib.hid ho
  clear hc ho
  go_enter Tryd.func19, Tryd.ntmps19
  go_wp2_with fail
  refine (check_any 2 a b c n _ (ops_below HO.out (Nat.le_refl _) ((Below.refl w.heap.size w).alloc (Nat.le_refl _) _))).mono ?_
  rintro e w1 ⟨rfl, hb⟩
  rw [HC.out]
  have HB := Lib.hid (((Below.refl w.heap.size w).alloc (Nat.le_refl _) (.cells #[.int .i64 2, .int .i64 a, .int .i64 b, .int .i64 c, .int .i64 n] 30)).trans (hb.mono (by simp)))
  obtain ⟨d0, d1, d2, d3, d4⟩ := ins_cells hb
  clear hb
  go_wp2_with fail
  go_ret
  exact ⟨⟨_, rfl, .inl ⟨rfl, rfl⟩⟩, HB.out⟩
set_option maxRecDepth 100000 in
set_option maxHeartbeats 1000000 in
theorem reads_3 (a b c n : Int) (hc : chkOf 3 a b c n = 0) : ReadsP 19 3 a b c n [b] := fun w ho => by
  have HC := Lib.hid hc
  have HO := Lib.hid ho
  clear hc ho
  go_enter Tryd.func19, Tryd.ntmps19
  go_wp2_with fail
  refine (check_any 3 a b c n _ (ops_below HO.out (Nat.le_refl _) ((Below.refl w.heap.size w).alloc (Nat.le_refl _) _))).mono ?_
  rintro e w1 ⟨rfl, hb⟩
  rw [HC.out]
  have HB := Lib.hid (((Below.refl w.heap.size w).alloc (Nat.le_refl _) (.cells #[.int .i64 3, .int .i64 a, .int .i64 b, .int .i64 c, .int .i64 n] 30)).trans (hb.mono (by simp)))
  obtain ⟨d0, d1, d2, d3, d4⟩ := ins_cells hb
  clear hb
  go_wp2_with fail
  go_ret
  exact ⟨⟨_, rfl, newrow_alloc HB.out b [] (by simp) _⟩, HB.out.alloc HB.out.size _⟩
set_option maxRecDepth 100000 in
set_option maxHeartbeats 1000000 in
theorem reads_4 (a b c n : Int) (hc : chkOf 4 a b c n = 0) : ReadsP 19 4 a b c n [a] := fun w ho => by
  have HC := Lib.hid hc
  have HO := Lib.hid ho
  clear hc ho
  go_enter Tryd.func19, Tryd.ntmps19
  go_wp2_with fail
  refine (check_any 4 a b c n _ (ops_below HO.out (Nat.le_refl _) ((Below.refl w.heap.size w).alloc (Nat.le_refl _) _))).mono ?_
  rintro e w1 ⟨rfl, hb⟩
  rw [HC.out]
  have HB := Lib.hid (((Below.refl w.heap.size w).alloc (Nat.le_refl _) (.cells #[.int .i64 4, .int .i64 a, .int .i64 b, .int .i64 c, .int .i64 n] 30)).trans (hb.mono (by simp)))
  obtain ⟨d0, d1, d2, d3, d4⟩ := ins_cells hb
  clear hb
  go_wp2_with fail
  go_ret
  exact ⟨⟨_, rfl, newrow_alloc HB.out a [] (by simp) _⟩, HB.out.alloc HB.out.size _⟩
set_option maxRecDepth 100000 in
set_option maxHeartbeats 1000000 in
theorem reads_5 (a b c n : Int) (hc : chkOf 5 a b c n = 0) : ReadsP 19 5 a b c n [] := fun w ho => by
  have HC := Lib.hid hc
  have HO := Lib.hid ho
  clear hc ho
  go_enter Tryd.func19, Tryd.ntmps19
  go_wp2_with fail
  refine (check_any 5 a b c n _ (ops_below HO.out (Nat.le_refl _) ((Below.refl w.heap.size w).alloc (Nat.le_refl _) _))).mono ?_
  rintro e w1 ⟨rfl, hb⟩
  rw [HC.out]
  have HB := Lib.hid (((Below.refl w.heap.size w).alloc (Nat.le_refl _) (.cells #[.int .i64 5, .int .i64 a, .int .i64 b, .int .i64 c, .int .i64 n] 30)).trans (hb.mono (by simp)))
  obtain ⟨d0, d1, d2, d3, d4⟩ := ins_cells hb
  clear hb
  go_wp2_with fail
  go_ret
  exact ⟨⟨_, rfl, .inl ⟨rfl, rfl⟩⟩, HB.out⟩
set_option maxRecDepth 100000 in
set_option maxHeartbeats 1000000 in
theorem reads_6 (a b c n : Int) (hc : chkOf 6 a b c n = 0) : ReadsP 19 6 a b c n [a] := fun w ho => by
  have HC := Lib.hid hc
  have HO := Lib.hid ho
  clear hc ho
  go_enter Tryd.func19, Tryd.ntmps19
  go_wp2_with fail
  refine (check_any 6 a b c n _ (ops_below HO.out (Nat.le_refl _) ((Below.refl w.heap.size w).alloc (Nat.le_refl _) _))).mono ?_
  rintro e w1 ⟨rfl, hb⟩
  rw [HC.out]
  have HB := Lib.hid (((Below.refl w.heap.size w).alloc (Nat.le_refl _) (.cells #[.int .i64 6, .int .i64 a, .int .i64 b, .int .i64 c, .int .i64 n] 30)).trans (hb.mono (by simp)))
  obtain ⟨d0, d1, d2, d3, d4⟩ := ins_cells hb
  clear hb
  go_wp2_with fail
  go_ret
  exact ⟨⟨_, rfl, newrow_alloc HB.out a [] (by simp) _⟩, HB.out.alloc HB.out.size _⟩
set_option maxRecDepth 100000 in
set_option maxHeartbeats 1000000 in
theorem reads_7 (a b c n : Int) (hc : chkOf 7 a b c n = 0) : ReadsP 19 7 a b c n [b, c] := fun w ho => by
  have HC := Lib.hid hc
  have HO := Lib.hid ho
  clear hc ho
  go_enter Tryd.func19, Tryd.ntmps19
  go_wp2_with fail
  refine (check_any 7 a b c n _ (ops_below HO.out (Nat.le_refl _) ((Below.refl w.heap.size w).alloc (Nat.le_refl _) _))).mono ?_
  rintro e w1 ⟨rfl, hb⟩
  rw [HC.out]
  have HB := Lib.hid (((Below.refl w.heap.size w).alloc (Nat.le_refl _) (.cells #[.int .i64 7, .int .i64 a, .int .i64 b, .int .i64 c, .int .i64 n] 30)).trans (hb.mono (by simp)))
  obtain ⟨d0, d1, d2, d3, d4⟩ := ins_cells hb
  clear hb
  go_wp2_with fail
  go_ret
  exact ⟨⟨_, rfl, newrow_alloc HB.out b [c] (by simp) _⟩, HB.out.alloc HB.out.size _⟩
set_option maxRecDepth 100000 in
set_option maxHeartbeats 1000000 in
theorem reads_8 (a b c n : Int) (hc : chkOf 8 a b c n = 0) : ReadsP 19 8 a b c n [b, c] := fun w ho => by
  have HC := Lib.hid hc
  have HO := Lib.hid ho
  clear hc ho
  go_enter Tryd.func19, Tryd.ntmps19
  go_wp2_with fail
  refine (check_any 8 a b c n _ (ops_below HO.out (Nat.le_refl _) ((Below.refl w.heap.size w).alloc (Nat.le_refl _) _))).mono ?_
  rintro e w1 ⟨rfl, hb⟩
  rw [HC.out]
  have HB := Lib.hid (((Below.refl w.heap.size w).alloc (Nat.le_refl _) (.cells #[.int .i64 8, .int .i64 a, .int .i64 b, .int .i64 c, .int .i64 n] 30)).trans (hb.mono (by simp)))
  obtain ⟨d0, d1, d2, d3, d4⟩ := ins_cells hb
  clear hb
  go_wp2_with fail
  go_ret
  exact ⟨⟨_, rfl, newrow_alloc HB.out b [c] (by simp) _⟩, HB.out.alloc HB.out.size _⟩
set_option maxRecDepth 100000 in
set_option maxHeartbeats 1000000 in
theorem reads_9 (a b c n : Int) (hc : chkOf 9 a b c n = 0) : ReadsP 19 9 a b c n [b, c] := fun w ho => by
  have HC := Lib.hid hc
  have HO := Lib.hid ho
  clear hc ho
  go_enter Tryd.func19, Tryd.ntmps19
  go_wp2_with fail
  refine (check_any 9 a b c n _ (ops_below HO.out (Nat.le_refl _) ((Below.refl w.heap.size w).alloc (Nat.le_refl _) _))).mono ?_
  rintro e w1 ⟨rfl, hb⟩
  rw [HC.out]
  have HB := Lib.hid (((Below.refl w.heap.size w).alloc (Nat.le_refl _) (.cells #[.int .i64 9, .int .i64 a, .int .i64 b, .int .i64 c, .int .i64 n] 30)).trans (hb.mono (by simp)))
  obtain ⟨d0, d1, d2, d3, d4⟩ := ins_cells hb
  clear hb
  go_wp2_with fail
  go_ret
  exact ⟨⟨_, rfl, newrow_alloc HB.out b [c] (by simp) _⟩, HB.out.alloc HB.out.size _⟩
set_option maxRecDepth 100000 in
set_option maxHeartbeats 1000000 in
theorem reads_10 (a b c n : Int) (hc : chkOf 10 a b c n = 0) : ReadsP 19 10 a b c n [b, c] := fun w ho => by
  have HC := Lib.hid hc
  have HO := Lib.hid ho
  clear hc ho
  go_enter Tryd.func19, Tryd.ntmps19
  go_wp2_with fail
  refine (check_any 10 a b c n _ (ops_below HO.out (Nat.le_refl _) ((Below.refl w.heap.size w).alloc (Nat.le_refl _) _))).mono ?_
  rintro e w1 ⟨rfl, hb⟩
  rw [HC.out]
  have HB := Lib.hid (((Below.refl w.heap.size w).alloc (Nat.le_refl _) (.cells #[.int .i64 10, .int .i64 a, .int .i64 b, .int .i64 c, .int .i64 n] 30)).trans (hb.mono (by simp)))
  obtain ⟨d0, d1, d2, d3, d4⟩ := ins_cells hb
  clear hb
  go_wp2_with fail
  go_ret
  exact ⟨⟨_, rfl, newrow_alloc HB.out b [c] (by simp) _⟩, HB.out.alloc HB.out.size _⟩
set_option maxRecDepth 100000 in
set_option maxHeartbeats 1000000 in
theorem reads_11 (a b c n : Int) (hc : chkOf 11 a b c n = 0) : ReadsP 19 11 a b c n [b, c] := fun w ho => by
  have HC := Lib.hid hc
  have HO := Lib.hid ho
  clear hc ho
  go_enter Tryd.func19, Tryd.ntmps19
  go_wp2_with fail
  refine (check_any 11 a b c n _ (ops_below HO.out (Nat.le_refl _) ((Below.refl w.heap.size w).alloc (Nat.le_refl _) _))).mono ?_
  rintro e w1 ⟨rfl, hb⟩
  rw [HC.out]
  have HB := Lib.hid (((Below.refl w.heap.size w).alloc (Nat.le_refl _) (.cells #[.int .i64 11, .int .i64 a, .int .i64 b, .int .i64 c, .int .i64 n] 30)).trans (hb.mono (by simp)))
  obtain ⟨d0, d1, d2, d3, d4⟩ := ins_cells hb
  clear hb
  go_wp2_with fail
  go_ret
  exact ⟨⟨_, rfl, newrow_alloc HB.out b [c] (by simp) _⟩, HB.out.alloc HB.out.size _⟩
set_option maxRecDepth 100000 in
set_option maxHeartbeats 1000000 in
theorem reads_12 (a b c n : Int) (hc : chkOf 12 a b c n = 0) : ReadsP 19 12 a b c n [b] := fun w ho => by
  have HC := Lib.hid hc
  have HO := Lib.hid ho
  clear hc ho
  go_enter Tryd.func19, Tryd.ntmps19
  go_wp2_with fail
  refine (check_any 12 a b c n _ (ops_below HO.out (Nat.le_refl _) ((Below.refl w.heap.size w).alloc (Nat.le_refl _) _))).mono ?_
  rintro e w1 ⟨rfl, hb⟩
  rw [HC.out]
  have HB := Lib.hid (((Below.refl w.heap.size w).alloc (Nat.le_refl _) (.cells #[.int .i64 12, .int .i64 a, .int .i64 b, .int .i64 c, .int .i64 n] 30)).trans (hb.mono (by simp)))
  obtain ⟨d0, d1, d2, d3, d4⟩ := ins_cells hb
  clear hb
  go_wp2_with fail
  go_ret
  exact ⟨⟨_, rfl, newrow_alloc HB.out b [] (by simp) _⟩, HB.out.alloc HB.out.size _⟩
set_option maxRecDepth 100000 in
set_option maxHeartbeats 1000000 in
theorem reads_13 (a b c n : Int) (hc : chkOf 13 a b c n = 0) : ReadsP 19 13 a b c n [b, c] := fun w ho => by
  have HC := Lib.hid hc
  have HO := Lib.hid ho
  clear hc ho
  go_enter Tryd.func19, Tryd.ntmps19
  go_wp2_with fail
  refine (check_any 13 a b c n _ (ops_below HO.out (Nat.le_refl _) ((Below.refl w.heap.size w).alloc (Nat.le_refl _) _))).mono ?_
  rintro e w1 ⟨rfl, hb⟩
  rw [HC.out]
  have HB := Lib.hid (((Below.refl w.heap.size w).alloc (Nat.le_refl _) (.cells #[.int .i64 13, .int .i64 a, .int .i64 b, .int .i64 c, .int .i64 n] 30)).trans (hb.mono (by simp)))
  obtain ⟨d0, d1, d2, d3, d4⟩ := ins_cells hb
  clear hb
  go_wp2_with fail
  go_ret
  exact ⟨⟨_, rfl, newrow_alloc HB.out b [c] (by simp) _⟩, HB.out.alloc HB.out.size _⟩
set_option maxRecDepth 100000 in
set_option maxHeartbeats 1000000 in
theorem reads_14 (a b c n : Int) (hc : chkOf 14 a b c n = 0) : ReadsP 19 14 a b c n [b, c] := fun w ho => by
  have HC := Lib.hid hc
  have HO := Lib.hid ho
  clear hc ho
  go_enter Tryd.func19, Tryd.ntmps19
  go_wp2_with fail
  refine (check_any 14 a b c n _ (ops_below HO.out (Nat.le_refl _) ((Below.refl w.heap.size w).alloc (Nat.le_refl _) _))).mono ?_
  rintro e w1 ⟨rfl, hb⟩
  rw [HC.out]
  have HB := Lib.hid (((Below.refl w.heap.size w).alloc (Nat.le_refl _) (.cells #[.int .i64 14, .int .i64 a, .int .i64 b, .int .i64 c, .int .i64 n] 30)).trans (hb.mono (by simp)))
  obtain ⟨d0, d1, d2, d3, d4⟩ := ins_cells hb
  clear hb
  go_wp2_with fail
  go_ret
  exact ⟨⟨_, rfl, newrow_alloc HB.out b [c] (by simp) _⟩, HB.out.alloc HB.out.size _⟩
set_option maxRecDepth 100000 in
set_option maxHeartbeats 1000000 in
theorem reads_15 (a b c n : Int) (hc : chkOf 15 a b c n = 0) : ReadsP 19 15 a b c n [b, c] := fun w ho => by
  have HC := Lib.hid hc
  have HO := Lib.hid ho
  clear hc ho
  go_enter Tryd.func19, Tryd.ntmps19
  go_wp2_with fail
  refine (check_any 15 a b c n _ (ops_below HO.out (Nat.le_refl _) ((Below.refl w.heap.size w).alloc (Nat.le_refl _) _))).mono ?_
  rintro e w1 ⟨rfl, hb⟩
  rw [HC.out]
  have HB := Lib.hid (((Below.refl w.heap.size w).alloc (Nat.le_refl _) (.cells #[.int .i64 15, .int .i64 a, .int .i64 b, .int .i64 c, .int .i64 n] 30)).trans (hb.mono (by simp)))
  obtain ⟨d0, d1, d2, d3, d4⟩ := ins_cells hb
  clear hb
  go_wp2_with fail
  go_ret
  exact ⟨⟨_, rfl, newrow_alloc HB.out b [c] (by simp) _⟩, HB.out.alloc HB.out.size _⟩
set_option maxRecDepth 100000 in
set_option maxHeartbeats 1000000 in
theorem reads_16 (a b c n : Int) (hc : chkOf 16 a b c n = 0) : ReadsP 19 16 a b c n [] := fun w ho => by
  have HC := Lib.hid hc
  have HO := Lib.hid ho
  clear hc ho
  go_enter Tryd.func19, Tryd.ntmps19
  go_wp2_with fail
  refine (check_any 16 a b c n _ (ops_below HO.out (Nat.le_refl _) ((Below.refl w.heap.size w).alloc (Nat.le_refl _) _))).mono ?_
  rintro e w1 ⟨rfl, hb⟩
  rw [HC.out]
  have HB := Lib.hid (((Below.refl w.heap.size w).alloc (Nat.le_refl _) (.cells #[.int .i64 16, .int .i64 a, .int .i64 b, .int .i64 c, .int .i64 n] 30)).trans (hb.mono (by simp)))
  obtain ⟨d0, d1, d2, d3, d4⟩ := ins_cells hb
  clear hb
  go_wp2_with fail
  go_ret
  exact ⟨⟨_, rfl, .inl ⟨rfl, rfl⟩⟩, HB.out⟩
set_option maxRecDepth 100000 in
set_option maxHeartbeats 1000000 in
theorem reads_17 (a b c n : Int) (hc : chkOf 17 a b c n = 0) : ReadsP 19 17 a b c n [] := fun w ho => by
  have HC := Lib.hid hc
  have HO := Lib.hid ho
  clear hc ho
  go_enter Tryd.func19, Tryd.ntmps19
  go_wp2_with fail
  refine (check_any 17 a b c n _ (ops_below HO.out (Nat.le_refl _) ((Below.refl w.heap.size w).alloc (Nat.le_refl _) _))).mono ?_
  rintro e w1 ⟨rfl, hb⟩
  rw [HC.out]
  have HB := Lib.hid (((Below.refl w.heap.size w).alloc (Nat.le_refl _) (.cells #[.int .i64 17, .int .i64 a, .int .i64 b, .int .i64 c, .int .i64 n] 30)).trans (hb.mono (by simp)))
  obtain ⟨d0, d1, d2, d3, d4⟩ := ins_cells hb
  clear hb
  go_wp2_with fail
  go_ret
  exact ⟨⟨_, rfl, .inl ⟨rfl, rfl⟩⟩, HB.out⟩
set_option maxRecDepth 100000 in
set_option maxHeartbeats 1000000 in
theorem reads_18 (a b c n : Int) (hc : chkOf 18 a b c n = 0) : ReadsP 19 18 a b c n [b] := fun w ho => by
  have HC := Lib.hid hc
  have HO := Lib.hid ho
  clear hc ho
  go_enter Tryd.func19, Tryd.ntmps19
  go_wp2_with fail
  refine (check_any 18 a b c n _ (ops_below HO.out (Nat.le_refl _) ((Below.refl w.heap.size w).alloc (Nat.le_refl _) _))).mono ?_
  rintro e w1 ⟨rfl, hb⟩
  rw [HC.out]
  have HB := Lib.hid (((Below.refl w.heap.size w).alloc (Nat.le_refl _) (.cells #[.int .i64 18, .int .i64 a, .int .i64 b, .int .i64 c, .int .i64 n] 30)).trans (hb.mono (by simp)))
  obtain ⟨d0, d1, d2, d3, d4⟩ := ins_cells hb
  clear hb
  go_wp2_with fail
  go_ret
  exact ⟨⟨_, rfl, newrow_alloc HB.out b [] (by simp) _⟩, HB.out.alloc HB.out.size _⟩
set_option maxRecDepth 100000 in
set_option maxHeartbeats 1000000 in
theorem reads_19 (a b c n : Int) (hc : chkOf 19 a b c n = 0) : ReadsP 19 19 a b c n [b] := fun w ho => by
  have HC := Lib.hid hc
  have HO := Lib.hid ho
  clear hc ho
  go_enter Tryd.func19, Tryd.ntmps19
  go_wp2_with fail
  refine (check_any 19 a b c n _ (ops_below HO.out (Nat.le_refl _) ((Below.refl w.heap.size w).alloc (Nat.le_refl _) _))).mono ?_
  rintro e w1 ⟨rfl, hb⟩
  rw [HC.out]
  have HB := Lib.hid (((Below.refl w.heap.size w).alloc (Nat.le_refl _) (.cells #[.int .i64 19, .int .i64 a, .int .i64 b, .int .i64 c, .int .i64 n] 30)).trans (hb.mono (by simp)))
  obtain ⟨d0, d1, d2, d3, d4⟩ := ins_cells hb
  clear hb
  go_wp2_with fail
  go_ret
  exact ⟨⟨_, rfl, newrow_alloc HB.out b [] (by simp) _⟩, HB.out.alloc HB.out.size _⟩
set_option maxRecDepth 100000 in
set_option maxHeartbeats 1000000 in
theorem reads_20 (a b c n : Int) (hc : chkOf 20 a b c n = 0) : ReadsP 19 20 a b c n [a, b] := fun w ho => by
  have HC := Lib.hid hc
  have HO := Lib.hid ho
  clear hc ho
  go_enter Tryd.func19, Tryd.ntmps19
  go_wp2_with fail
  refine (check_any 20 a b c n _ (ops_below HO.out (Nat.le_refl _) ((Below.refl w.heap.size w).alloc (Nat.le_refl _) _))).mono ?_
  rintro e w1 ⟨rfl, hb⟩
  rw [HC.out]
  have HB := Lib.hid (((Below.refl w.heap.size w).alloc (Nat.le_refl _) (.cells #[.int .i64 20, .int .i64 a, .int .i64 b, .int .i64 c, .int .i64 n] 30)).trans (hb.mono (by simp)))
  obtain ⟨d0, d1, d2, d3, d4⟩ := ins_cells hb
  clear hb
  go_wp2_with fail
  go_ret
  exact ⟨⟨_, rfl, newrow_alloc HB.out a [b] (by simp) _⟩, HB.out.alloc HB.out.size _⟩
set_option maxRecDepth 100000 in
set_option maxHeartbeats 1000000 in
theorem reads_21 (a b c n : Int) (hc : chkOf 21 a b c n = 0) : ReadsP 19 21 a b c n [a, b] := fun w ho => by
  have HC := Lib.hid hc
  have HO := Lib.hid ho
  clear hc ho
  go_enter Tryd.func19, Tryd.ntmps19
  go_wp2_with fail
  refine (check_any 21 a b c n _ (ops_below HO.out (Nat.le_refl _) ((Below.refl w.heap.size w).alloc (Nat.le_refl _) _))).mono ?_
  rintro e w1 ⟨rfl, hb⟩
  rw [HC.out]
  have HB := Lib.hid (((Below.refl w.heap.size w).alloc (Nat.le_refl _) (.cells #[.int .i64 21, .int .i64 a, .int .i64 b, .int .i64 c, .int .i64 n] 30)).trans (hb.mono (by simp)))
  obtain ⟨d0, d1, d2, d3, d4⟩ := ins_cells hb
  clear hb
  go_wp2_with fail
  go_ret
  exact ⟨⟨_, rfl, newrow_alloc HB.out a [b] (by simp) _⟩, HB.out.alloc HB.out.size _⟩
set_option maxRecDepth 100000 in
set_option maxHeartbeats 1000000 in
theorem reads_22 (a b c n : Int) (hc : chkOf 22 a b c n = 0) : ReadsP 19 22 a b c n [b] := fun w ho => by
  have HC := Lib.hid hc
  have HO := Lib.hid ho
  clear hc ho
  go_enter Tryd.func19, Tryd.ntmps19
  go_wp2_with fail
  refine (check_any 22 a b c n _ (ops_below HO.out (Nat.le_refl _) ((Below.refl w.heap.size w).alloc (Nat.le_refl _) _))).mono ?_
  rintro e w1 ⟨rfl, hb⟩
  rw [HC.out]
  have HB := Lib.hid (((Below.refl w.heap.size w).alloc (Nat.le_refl _) (.cells #[.int .i64 22, .int .i64 a, .int .i64 b, .int .i64 c, .int .i64 n] 30)).trans (hb.mono (by simp)))
  obtain ⟨d0, d1, d2, d3, d4⟩ := ins_cells hb
  clear hb
  go_wp2_with fail
  go_ret
  exact ⟨⟨_, rfl, newrow_alloc HB.out b [] (by simp) _⟩, HB.out.alloc HB.out.size _⟩
set_option maxRecDepth 100000 in
set_option maxHeartbeats 1000000 in
theorem reads_23 (a b c n : Int) (hc : chkOf 23 a b c n = 0) : ReadsP 19 23 a b c n [] := fun w ho => by
  have HC := Lib.hid hc
  have HO := Lib.hid ho
  clear hc ho
  go_enter Tryd.func19, Tryd.ntmps19
  go_wp2_with fail
  refine (check_any 23 a b c n _ (ops_below HO.out (Nat.le_refl _) ((Below.refl w.heap.size w).alloc (Nat.le_refl _) _))).mono ?_
  rintro e w1 ⟨rfl, hb⟩
  rw [HC.out]
  have HB := Lib.hid (((Below.refl w.heap.size w).alloc (Nat.le_refl _) (.cells #[.int .i64 23, .int .i64 a, .int .i64 b, .int .i64 c, .int .i64 n] 30)).trans (hb.mono (by simp)))
  obtain ⟨d0, d1, d2, d3, d4⟩ := ins_cells hb
  clear hb
  go_wp2_with fail
  go_ret
  exact ⟨⟨_, rfl, .inl ⟨rfl, rfl⟩⟩, HB.out⟩
set_option maxRecDepth 100000 in
set_option maxHeartbeats 1000000 in
theorem reads_24 (a b c n : Int) (hc : chkOf 24 a b c n = 0) : ReadsP 19 24 a b c n [a] := fun w ho => by
  have HC := Lib.hid hc
  have HO := Lib.hid ho
  clear hc ho
  go_enter Tryd.func19, Tryd.ntmps19
  go_wp2_with fail
  refine (check_any 24 a b c n _ (ops_below HO.out (Nat.le_refl _) ((Below.refl w.heap.size w).alloc (Nat.le_refl _) _))).mono ?_
  rintro e w1 ⟨rfl, hb⟩
  rw [HC.out]
  have HB := Lib.hid (((Below.refl w.heap.size w).alloc (Nat.le_refl _) (.cells #[.int .i64 24, .int .i64 a, .int .i64 b, .int .i64 c, .int .i64 n] 30)).trans (hb.mono (by simp)))
  obtain ⟨d0, d1, d2, d3, d4⟩ := ins_cells hb
  clear hb
  go_wp2_with fail
  go_ret
  exact ⟨⟨_, rfl, newrow_alloc HB.out a [] (by simp) _⟩, HB.out.alloc HB.out.size _⟩
set_option maxRecDepth 100000 in
set_option maxHeartbeats 1000000 in
theorem reads_25 (a b c n : Int) (hc : chkOf 25 a b c n = 0) : ReadsP 19 25 a b c n [] := fun w ho => by
  have HC := Lib.hid hc
  have HO := Lib.hid ho
  clear hc ho
  go_enter Tryd.func19, Tryd.ntmps19
  go_wp2_with fail
  refine (check_any 25 a b c n _ (ops_below HO.out (Nat.le_refl _) ((Below.refl w.heap.size w).alloc (Nat.le_refl _) _))).mono ?_
  rintro e w1 ⟨rfl, hb⟩
  rw [HC.out]
  have HB := Lib.hid (((Below.refl w.heap.size w).alloc (Nat.le_refl _) (.cells #[.int .i64 25, .int .i64 a, .int .i64 b, .int .i64 c, .int .i64 n] 30)).trans (hb.mono (by simp)))
  obtain ⟨d0, d1, d2, d3, d4⟩ := ins_cells hb
  clear hb
  go_wp2_with fail
  go_ret
  exact ⟨⟨_, rfl, .inl ⟨rfl, rfl⟩⟩, HB.out⟩
set_option maxRecDepth 100000 in
set_option maxHeartbeats 1000000 in
theorem reads_26 (a b c n : Int) (hc : chkOf 26 a b c n = 0) : ReadsP 19 26 a b c n [a, b] := fun w ho => by
  have HC := Lib.hid hc
  have HO := Lib.hid ho
  clear hc ho
  go_enter Tryd.func19, Tryd.ntmps19
  go_wp2_with fail
  refine (check_any 26 a b c n _ (ops_below HO.out (Nat.le_refl _) ((Below.refl w.heap.size w).alloc (Nat.le_refl _) _))).mono ?_
  rintro e w1 ⟨rfl, hb⟩
  rw [HC.out]
  have HB := Lib.hid (((Below.refl w.heap.size w).alloc (Nat.le_refl _) (.cells #[.int .i64 26, .int .i64 a, .int .i64 b, .int .i64 c, .int .i64 n] 30)).trans (hb.mono (by simp)))
  obtain ⟨d0, d1, d2, d3, d4⟩ := ins_cells hb
  clear hb
  go_wp2_with fail
  go_ret
  exact ⟨⟨_, rfl, newrow_alloc HB.out a [b] (by simp) _⟩, HB.out.alloc HB.out.size _⟩
set_option maxRecDepth 100000 in
set_option maxHeartbeats 1000000 in
theorem reads_27 (a b c n : Int) (hc : chkOf 27 a b c n = 0) : ReadsP 19 27 a b c n [a, b] := fun w ho => by
  have HC := Lib.hid hc
  have HO := Lib.hid ho
  clear hc ho
  go_enter Tryd.func19, Tryd.ntmps19
  go_wp2_with fail
  refine (check_any 27 a b c n _ (ops_below HO.out (Nat.le_refl _) ((Below.refl w.heap.size w).alloc (Nat.le_refl _) _))).mono ?_
  rintro e w1 ⟨rfl, hb⟩
  rw [HC.out]
  have HB := Lib.hid (((Below.refl w.heap.size w).alloc (Nat.le_refl _) (.cells #[.int .i64 27, .int .i64 a, .int .i64 b, .int .i64 c, .int .i64 n] 30)).trans (hb.mono (by simp)))
  obtain ⟨d0, d1, d2, d3, d4⟩ := ins_cells hb
  clear hb
  go_wp2_with fail
  go_ret
  exact ⟨⟨_, rfl, newrow_alloc HB.out a [b] (by simp) _⟩, HB.out.alloc HB.out.size _⟩
set_option maxRecDepth 100000 in
set_option maxHeartbeats 1000000 in
theorem reads_28 (a b c n : Int) (hc : chkOf 28 a b c n = 0) : ReadsP 19 28 a b c n [a] := fun w ho => by
  have HC := Lib.hid hc
  have HO := Lib.hid ho
  clear hc ho
  go_enter Tryd.func19, Tryd.ntmps19
  go_wp2_with fail
  refine (check_any 28 a b c n _ (ops_below HO.out (Nat.le_refl _) ((Below.refl w.heap.size w).alloc (Nat.le_refl _) _))).mono ?_
  rintro e w1 ⟨rfl, hb⟩
  rw [HC.out]
  have HB := Lib.hid (((Below.refl w.heap.size w).alloc (Nat.le_refl _) (.cells #[.int .i64 28, .int .i64 a, .int .i64 b, .int .i64 c, .int .i64 n] 30)).trans (hb.mono (by simp)))
  obtain ⟨d0, d1, d2, d3, d4⟩ := ins_cells hb
  clear hb
  go_wp2_with fail
  go_ret
  exact ⟨⟨_, rfl, newrow_alloc HB.out a [] (by simp) _⟩, HB.out.alloc HB.out.size _⟩
set_option maxRecDepth 100000 in
set_option maxHeartbeats 1000000 in
theorem reads_29 (a b c n : Int) (hc : chkOf 29 a b c n = 0) : ReadsP 19 29 a b c n [] := fun w ho => by
  have HC := Lib.hid hc
  have HO := Lib.hid ho
  clear hc ho
  go_enter Tryd.func19, Tryd.ntmps19
  go_wp2_with fail
  refine (check_any 29 a b c n _ (ops_below HO.out (Nat.le_refl _) ((Below.refl w.heap.size w).alloc (Nat.le_refl _) _))).mono ?_
  rintro e w1 ⟨rfl, hb⟩
  rw [HC.out]
  have HB := Lib.hid (((Below.refl w.heap.size w).alloc (Nat.le_refl _) (.cells #[.int .i64 29, .int .i64 a, .int .i64 b, .int .i64 c, .int .i64 n] 30)).trans (hb.mono (by simp)))
  obtain ⟨d0, d1, d2, d3, d4⟩ := ins_cells hb
  clear hb
  go_wp2_with fail
  go_ret
  exact ⟨⟨_, rfl, .inl ⟨rfl, rfl⟩⟩, HB.out⟩
set_option maxRecDepth 100000 in
set_option maxHeartbeats 1000000 in
theorem reads_30 (a b c n : Int) (hc : chkOf 30 a b c n = 0) : ReadsP 19 30 a b c n [] := fun w ho => by
  have HC := Lib.hid hc
  have HO := Lib.hid ho
  clear hc ho
  go_enter Tryd.func19, Tryd.ntmps19
  go_wp2_with fail
  refine (check_any 30 a b c n _ (ops_below HO.out (Nat.le_refl _) ((Below.refl w.heap.size w).alloc (Nat.le_refl _) _))).mono ?_
  rintro e w1 ⟨rfl, hb⟩
  rw [HC.out]
  have HB := Lib.hid (((Below.refl w.heap.size w).alloc (Nat.le_refl _) (.cells #[.int .i64 30, .int .i64 a, .int .i64 b, .int .i64 c, .int .i64 n] 30)).trans (hb.mono (by simp)))
  obtain ⟨d0, d1, d2, d3, d4⟩ := ins_cells hb
  clear hb
  go_wp2_with fail
  go_ret
  exact ⟨⟨_, rfl, .inl ⟨rfl, rfl⟩⟩, HB.out⟩
set_option maxRecDepth 100000 in
set_option maxHeartbeats 1000000 in
theorem reads_31 (a b c n : Int) (hc : chkOf 31 a b c n = 0) : ReadsP 19 31 a b c n [a] := fun w ho => by
  have HC := Lib.hid hc
  have HO := Lib.hid ho
  clear hc ho
  go_enter Tryd.func19, Tryd.ntmps19
  go_wp2_with fail
  refine (check_any 31 a b c n _ (ops_below HO.out (Nat.le_refl _) ((Below.refl w.heap.size w).alloc (Nat.le_refl _) _))).mono ?_
  rintro e w1 ⟨rfl, hb⟩
  rw [HC.out]
  have HB := Lib.hid (((Below.refl w.heap.size w).alloc (Nat.le_refl _) (.cells #[.int .i64 31, .int .i64 a, .int .i64 b, .int .i64 c, .int .i64 n] 30)).trans (hb.mono (by simp)))
  obtain ⟨d0, d1, d2, d3, d4⟩ := ins_cells hb
  clear hb
  go_wp2_with fail
  go_ret
  exact ⟨⟨_, rfl, newrow_alloc HB.out a [] (by simp) _⟩, HB.out.alloc HB.out.size _⟩
set_option maxRecDepth 100000 in
set_option maxHeartbeats 1000000 in
theorem reads_32 (a b c n : Int) (hc : chkOf 32 a b c n = 0) : ReadsP 19 32 a b c n [b, c] := fun w ho => by
  have HC := Lib.hid hc
  have HO := Lib.hid ho
  clear hc ho
  go_enter Tryd.func19, Tryd.ntmps19
  go_wp2_with fail
  refine (check_any 32 a b c n _ (ops_below HO.out (Nat.le_refl _) ((Below.refl w.heap.size w).alloc (Nat.le_refl _) _))).mono ?_
  rintro e w1 ⟨rfl, hb⟩
  rw [HC.out]
  have HB := Lib.hid (((Below.refl w.heap.size w).alloc (Nat.le_refl _) (.cells #[.int .i64 32, .int .i64 a, .int .i64 b, .int .i64 c, .int .i64 n] 30)).trans (hb.mono (by simp)))
  obtain ⟨d0, d1, d2, d3, d4⟩ := ins_cells hb
  clear hb
  go_wp2_with fail
  go_ret
  exact ⟨⟨_, rfl, newrow_alloc HB.out b [c] (by simp) _⟩, HB.out.alloc HB.out.size _⟩
set_option maxRecDepth 100000 in
set_option maxHeartbeats 1000000 in
theorem reads_33 (a b c n : Int) (hc : chkOf 33 a b c n = 0) : ReadsP 19 33 a b c n [b] := fun w ho => by
  have HC := Lib.hid hc
  have HO := Lib.hid ho
  clear hc ho
  go_enter Tryd.func19, Tryd.ntmps19
  go_wp2_with fail
  refine (check_any 33 a b c n _ (ops_below HO.out (Nat.le_refl _) ((Below.refl w.heap.size w).alloc (Nat.le_refl _) _))).mono ?_
  rintro e w1 ⟨rfl, hb⟩
  rw [HC.out]
  have HB := Lib.hid (((Below.refl w.heap.size w).alloc (Nat.le_refl _) (.cells #[.int .i64 33, .int .i64 a, .int .i64 b, .int .i64 c, .int .i64 n] 30)).trans (hb.mono (by simp)))
  obtain ⟨d0, d1, d2, d3, d4⟩ := ins_cells hb
  clear hb
  go_wp2_with fail
  go_ret
  exact ⟨⟨_, rfl, newrow_alloc HB.out b [] (by simp) _⟩, HB.out.alloc HB.out.size _⟩
set_option maxRecDepth 100000 in
set_option maxHeartbeats 1000000 in
theorem reads_34 (a b c n : Int) (hc : chkOf 34 a b c n = 0) : ReadsP 19 34 a b c n [b] := fun w ho => by
  have HC := Lib.hid hc
  have HO := Lib.hid ho
  clear hc ho
  go_enter Tryd.func19, Tryd.ntmps19
  go_wp2_with fail
  refine (check_any 34 a b c n _ (ops_below HO.out (Nat.le_refl _) ((Below.refl w.heap.size w).alloc (Nat.le_refl _) _))).mono ?_
  rintro e w1 ⟨rfl, hb⟩
  rw [HC.out]
  have HB := Lib.hid (((Below.refl w.heap.size w).alloc (Nat.le_refl _) (.cells #[.int .i64 34, .int .i64 a, .int .i64 b, .int .i64 c, .int .i64 n] 30)).trans (hb.mono (by simp)))
  obtain ⟨d0, d1, d2, d3, d4⟩ := ins_cells hb
  clear hb
  go_wp2_with fail
  go_ret
  exact ⟨⟨_, rfl, newrow_alloc HB.out b [] (by simp) _⟩, HB.out.alloc HB.out.size _⟩
set_option maxRecDepth 100000 in
set_option maxHeartbeats 1000000 in
theorem reads_35 (a b c n : Int) (hc : chkOf 35 a b c n = 0) : ReadsP 19 35 a b c n [b, c] := fun w ho => by
  have HC := Lib.hid hc
  have HO := Lib.hid ho
  clear hc ho
  go_enter Tryd.func19, Tryd.ntmps19
  go_wp2_with fail
  refine (check_any 35 a b c n _ (ops_below HO.out (Nat.le_refl _) ((Below.refl w.heap.size w).alloc (Nat.le_refl _) _))).mono ?_
  rintro e w1 ⟨rfl, hb⟩
  rw [HC.out]
  have HB := Lib.hid (((Below.refl w.heap.size w).alloc (Nat.le_refl _) (.cells #[.int .i64 35, .int .i64 a, .int .i64 b, .int .i64 c, .int .i64 n] 30)).trans (hb.mono (by simp)))
  obtain ⟨d0, d1, d2, d3, d4⟩ := ins_cells hb
  clear hb
  go_wp2_with fail
  go_ret
  exact ⟨⟨_, rfl, newrow_alloc HB.out b [c] (by simp) _⟩, HB.out.alloc HB.out.size _⟩
set_option maxRecDepth 100000 in
set_option maxHeartbeats 1000000 in
theorem reads_36 (a b c n : Int) (hc : chkOf 36 a b c n = 0) : ReadsP 19 36 a b c n [b] := fun w ho => by
  have HC := Lib.hid hc
  have HO := Lib.hid ho
  clear hc ho
  go_enter Tryd.func19, Tryd.ntmps19
  go_wp2_with fail
  refine (check_any 36 a b c n _ (ops_below HO.out (Nat.le_refl _) ((Below.refl w.heap.size w).alloc (Nat.le_refl _) _))).mono ?_
  rintro e w1 ⟨rfl, hb⟩
  rw [HC.out]
  have HB := Lib.hid (((Below.refl w.heap.size w).alloc (Nat.le_refl _) (.cells #[.int .i64 36, .int .i64 a, .int .i64 b, .int .i64 c, .int .i64 n] 30)).trans (hb.mono (by simp)))
  obtain ⟨d0, d1, d2, d3, d4⟩ := ins_cells hb
  clear hb
  go_wp2_with fail
  go_ret
  exact ⟨⟨_, rfl, newrow_alloc HB.out b [] (by simp) _⟩, HB.out.alloc HB.out.size _⟩
end Go.Proofs.YtfmecfamiplfdaaDoor
