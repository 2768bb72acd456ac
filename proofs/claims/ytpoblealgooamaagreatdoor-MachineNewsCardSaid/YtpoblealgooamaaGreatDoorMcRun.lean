/- The parts of a machine's run, where one frame stands. Conditions: the machine's cells. -/
import Derived.Test.YtpoblealgooamaaGreatDoorMcNew
import Derived.Deep.RegionHeld3
import Derived.Deep.QuietTactic
import Derived.BigQuiet
namespace Go.Proofs.YtpoblealgooamaaGreatDoor
open Go Go.RowKit
theorem far_cell {W : World} {g b i j : Nat} {v : Value} (h : g ≠ b) : (W.setCell ⟨g, i, none⟩ v).cell? ⟨b, j, none⟩ = W.cell? ⟨b, j, none⟩ := World.cell?_setCell_far _ _ _ _ h
set_option maxRecDepth 100000 in
theorem none_mc {w : World} {g b : Nat} {F : Nat → Value} (hx : Bx w g F) (h0 : F 0 = .pointer (some ⟨b, 0, none⟩)) : Calls Tryz.prog 22 #[.pointer (some ⟨g, 0, none⟩)] w fun e w' => e = .returned (.bool false) ∧ w' = w := by
  have c0 := hx.cell (j := 0) (by omega)
  rw [h0] at c0
  have hn : ((some (⟨g, 0, none⟩ : Addr)) == none) = false := rfl
  have hn2 : ((some (⟨b, 0, none⟩ : Addr)) == none) = false := rfl
  clear hx h0
  go_enter Tryz.func22, Tryz.ntmps22
  go_wp2_with fail
  go_ret
  exact ⟨rfl, rfl⟩
set_option maxRecDepth 100000 in
set_option maxHeartbeats 8000000 in
theorem top_mc {w : World} {g fb c : Nat} {F : Nat → Value} (hx : Bx w g F) (h1 : F 1045 = .slice (some ⟨fb, 0, none⟩) 1 c) : Calls Tryz.prog 49 #[.pointer (some ⟨g, 0, none⟩)] w fun e w' => e = .returned (.pointer (some ⟨fb, 0, none⟩)) ∧ ∃ n, w' = w.drewN n := by
  have c0 := hx.cell (j := 1045) (by omega)
  rw [h1] at c0
  clear hx h1
  go_enter Tryz.func49, Tryz.ntmps49
  go_wp2_with fail
  go_quiet (fail)
  go_wp2_with fail
  go_ret
  exact ⟨rfl, _, rfl⟩
set_option maxRecDepth 100000 in
set_option maxHeartbeats 8000000 in
theorem handling_mc {w : World} {g : Nat} {F : Nat → Value} (hx : Bx w g F) (h2 : F 1047 = .slice none 0 0) : Calls Tryz.prog 106 #[.pointer (some ⟨g, 0, none⟩)] w fun e w' => e = .returned (.bool false) ∧ ∃ n, w' = w.drewN n := by
  have c0 := hx.cell (j := 1047) (by omega)
  rw [h2] at c0
  clear hx h2
  go_enter Tryz.func106, Tryz.ntmps106
  go_wp2_with fail
  go_quiet (fail)
  go_wp2_with fail
  go_ret
  exact ⟨rfl, _, rfl⟩
/-- the uppermost frame, the only one: its code, its place, its literals, its instructions -/
structure Fb (w : World) (fb : Nat) (cd pl : Int) (n : Nat) : Prop where
  c : ∃ cs, w.heap[fb]? = some (.cells cs 94 (0, 0)) ∧ cs[0]? = some (.int .u64 cd) ∧ cs[1]? = some (.int .i64 pl) ∧ cs[2]? = some (.int .i64 0) ∧ cs[3]? = some (.int .i64 (n : Int)) ∧ cs[4]? = some (.int .i64 0)
theorem Fb.cells {w : World} {fb n : Nat} {cd pl : Int} (h : Fb w fb cd pl n) : w.cell? ⟨fb, 0, none⟩ = some (.int .u64 cd) ∧ w.cell? ⟨fb, 1, none⟩ = some (.int .i64 pl) ∧ w.cell? ⟨fb, 2, none⟩ = some (.int .i64 0) ∧ w.cell? ⟨fb, 3, none⟩ = some (.int .i64 (n : Int)) ∧ w.cell? ⟨fb, 4, none⟩ = some (.int .i64 0) := by
  obtain ⟨cs, hb, h0, h1, h2, h3, h4⟩ := h.c
  exact ⟨(mc_cell hb 0).trans h0, (mc_cell hb 1).trans h1, (mc_cell hb 2).trans h2, (mc_cell hb 3).trans h3, (mc_cell hb 4).trans h4⟩
theorem Fb.frozen {w : World} {fb n : Nat} {cd pl : Int} (h : Fb w fb cd pl n) (j : Nat) : w.frozen? ⟨fb, j, none⟩ = false := by
  obtain ⟨cs, hb, _⟩ := h.c
  exact mc_froz hb j
theorem Fb.lt {w : World} {fb n : Nat} {cd pl : Int} (h : Fb w fb cd pl n) : fb < w.heap.size := by
  obtain ⟨cs, hb, _⟩ := h.c
  exact (Array.getElem?_eq_some_iff.1 hb).1
theorem Fb.keep {w w1 : World} {fb n : Nat} {cd pl : Int} (h : Fb w fb cd pl n) (hb : w1.heap[fb]? = w.heap[fb]?) : Fb w1 fb cd pl n := by
  obtain ⟨cs, h1, h2⟩ := h.c
  exact ⟨cs, hb.trans h1, h2⟩
theorem Fb.below {w w1 : World} {fb n : Nat} {cd pl : Int} (h : Fb w fb cd pl n) (hb : Below w.heap.size w w1) : Fb w1 fb cd pl n := h.keep (hb.block fb h.lt)
theorem Fb.fr {O : Nat → Prop} {w w1 : World} {fb n : Nat} {cd pl : Int} (h : Fb w fb cd pl n) (hf : Fr O w w1) (hO : ¬ O fb) : Fb w1 fb cd pl n := h.keep (hf.block fb h.lt hO)
/-- the place is moved on -/
theorem Fb.go {w : World} {fb n : Nat} {cd pl : Int} (h : Fb w fb cd pl n) (p2 : Int) : Fb (w.setCell ⟨fb, 1, none⟩ (.int .i64 p2)) fb cd p2 n := by
  obtain ⟨cs, hb, h0, h1, h2, h3, h4⟩ := h.c
  have hl := (Array.getElem?_eq_some_iff.1 h1).1
  refine ⟨cs.setIfInBounds 1 (.int .i64 p2), ?_, ?_, ?_, ?_, ?_, ?_⟩
  · show (w.heap.modify fb _)[fb]? = _
    rw [Array.getElem?_modify, if_pos rfl, hb]
    rfl
  all_goals rw [Array.getElem?_setIfInBounds]
  · exact h0
  · rw [if_pos rfl, if_pos hl]
  · exact h2
  · exact h3
  · exact h4
set_option maxRecDepth 100000 in
set_option maxHeartbeats 8000000 in
/-- drop, of the only frame -/
theorem drop_mc {w : World} {g fb c n : Nat} {F : Nat → Value} {cd pl : Int} (hx : Bx w g F) (h1 : F 1045 = .slice (some ⟨fb, 0, none⟩) 1 c) (h2 : F 1046 = .slice none 0 0) (hf : Fb w fb cd pl n) (hne : fb ≠ g) :
    Calls Tryz.prog 87 #[.pointer (some ⟨g, 0, none⟩), .int .i64 0] w fun e w' => (∃ v, e = .returned v) ∧ Bx w' g (mup (mup F 1046 (.slice none 0 0)) 1045 (.slice (some ⟨fb, 0, none⟩) 0 c)) ∧ Fr (· = g) w w' := by
  have c0 := hx.cell (j := 1045) (by omega)
  rw [h1] at c0
  have c1 := hx.cell (j := 1046) (by omega)
  rw [h2] at c1
  have z0 := hx.frozen 1045
  have z1 := hx.frozen 1046
  have f4 := hf.cells.2.2.2.2
  have HX := Lib.hid hx
  clear hx h1 h2 hf
  have hne1 : fb ≠ g := hne
  have hne2 : g ≠ fb := Ne.symm hne
  go_enter Tryz.func87, Tryz.ntmps87
  go_wp2_with fail
  go_region_held3 (fun Y => Y.cell? ⟨g, 1046, none⟩ = some (.slice none 0 0) ∧ Y.cell? ⟨g, 1045, none⟩ = some (.slice (some ⟨fb, 0, none⟩) 1 c) ∧ Y.cell? ⟨fb, 4, none⟩ = some (.int .i64 0)) (first | assumption | (simp [go_sem, *])) (fail)
  go_wp2_with fail
  refine bodyPost_end (results_none rfl _ _ _) rfl ?_
  exact ⟨⟨_, rfl⟩, (HX.out.set 1046 (.slice none 0 0)).set 1045 (.slice (some ⟨fb, 0, none⟩) 0 c), (((Fr.refl (· = g) w).setCell (p := ⟨g, 1046, none⟩) (.inl rfl) (.slice none 0 0)).drew).setCell (p := ⟨g, 1045, none⟩) (.inl rfl) (.slice (some ⟨fb, 0, none⟩) 0 c)⟩
set_option maxRecDepth 100000 in
set_option maxHeartbeats 8000000 in
theorem leave_mc {w : World} {g fb c n : Nat} {F : Nat → Value} {cd pl : Int} (hx : Bx w g F) (h1 : F 1045 = .slice (some ⟨fb, 0, none⟩) 1 c) (h2 : F 1046 = .slice none 0 0) (h3 : F 1047 = .slice none 0 0) (hf : Fb w fb cd pl n) (hne : fb ≠ g) (wv : Int) :
    Calls Tryz.prog 104 #[.pointer (some ⟨g, 0, none⟩), .int .u64 wv] w fun e w' => e = .returned (.int .i64 1) ∧ Bx w' g (mup (mup (mup F 1046 (.slice none 0 0)) 1045 (.slice (some ⟨fb, 0, none⟩) 0 c)) 1044 (.int .u64 wv)) ∧ Fr (· = g) w w' := by
  have c0 := hx.cell (j := 1045) (by omega)
  rw [h1] at c0
  have HH := Lib.hid (handling_mc hx h3)
  have HD := Lib.hid (fun (q : Nat) => drop_mc (w := w.drewN q) (F := F) hx h1 h2 (hf.keep rfl) hne)
  have HC0 := Lib.hid c0
  clear hx h1 h2 h3 hf c0
  go_enter Tryz.func104, Tryz.ntmps104
  go_wp2_with fail
  refine (HH.out).mono ?_
  rintro e w1 ⟨rfl, q, hq⟩
  subst w1
  have c0 : (w.drewN q).cell? ⟨g, 1045, none⟩ = some (.slice (some ⟨fb, 0, none⟩) 1 c) := HC0.out
  go_wp2_with fail
  refine ((HD.out q)).mono ?_
  rintro e w2 ⟨⟨v, rfl⟩, hx2, hf2⟩
  have d0 := hx2.cell (j := 1045) (by omega)
  rw [mup_same] at d0
  have d1 := hx2.cell (j := 1044) (by omega)
  have z1 := hx2.frozen 1044
  have HX := Lib.hid (hx2.set 1044 (.int .u64 wv))
  have HF := Lib.hid ((((Fr.refl (· = g) w).drewN q).trans hf2 (fun i hi => .inl hi)).setCell (p := ⟨g, 1044, none⟩) (.inl rfl) (.int .u64 wv))
  clear hx2 hf2
  go_wp2_with fail
  go_ret
  exact ⟨rfl, HX.out, HF.out⟩
set_option maxRecDepth 100000 in
set_option maxHeartbeats 8000000 in
/-- the instruction int -/
theorem carry_mc {w : World} {g fb c n : Nat} {F : Nat → Value} {cd pl : Int} (hx : Bx w g F) (h1 : F 1045 = .slice (some ⟨fb, 0, none⟩) 1 c) (h2 : F 1046 = .slice none 0 0) (hf : Fb w fb cd pl n) (A : Nat) (hA : A < 16) (B C N : Int) :
    Calls Tryz.prog 56 #[.pointer (some ⟨g, 0, none⟩), .agg #[.int .i64 1, .int .i64 A, .int .i64 B, .int .i64 C, .int .i64 N]] w fun e w' => e = .returned (.int .i64 0) ∧ Bx w' g (mup F (2 + A) (.int .u64 (intW N))) ∧ Fr (· = g) w w' := by
  obtain ⟨X, hX⟩ : ∃ X, w.alloc (.cells #[.int .i64 1, .int .i64 A, .int .i64 B, .int .i64 C, .int .i64 N] 66) = X := ⟨_, rfl⟩
  have hblk := heap_alloc_new w (.cells #[.int .i64 1, .int .i64 A, .int .i64 B, .int .i64 C, .int .i64 N] 66)
  have hfr := (Fr.refl (· = g) w).alloc (.cells #[.int .i64 1, .int .i64 A, .int .i64 B, .int .i64 C, .int .i64 N] 66)
  have hb0 : Below w.heap.size w (w.alloc (.cells #[.int .i64 1, .int .i64 A, .int .i64 B, .int .i64 C, .int .i64 N] 66)) := (Below.refl _ w).alloc (Nat.le_refl _) _
  rw [hX] at hblk hfr hb0
  have hgw : g ≠ w.heap.size := Nat.ne_of_lt hx.lt
  have hx := hx.below hb0
  have hf := hf.below hb0
  have HW := Lib.hid hX
  have HTP := Lib.hid (top_mc hx h1)
  have HI := Lib.hid (fun Y => int_any N Y)
  have HX := Lib.hid hx
  have HF := Lib.hid hfr
  have c2 := hx.cell (j := 1046) (by omega)
  rw [h2] at c2
  have f4 := hf.cells.2.2.2.2
  have r0 : X.cell? ⟨w.heap.size, 0, none⟩ = some (.int .i64 1) := mc_cell hblk 0
  have r1 : X.cell? ⟨w.heap.size, 1, none⟩ = some (.int .i64 A) := mc_cell hblk 1
  have r4 : X.cell? ⟨w.heap.size, 4, none⟩ = some (.int .i64 N) := mc_cell hblk 4
  have HC := Lib.hid (And.intro c2 (And.intro f4 (And.intro r0 (And.intro r1 r4))))
  have ra := hx.cell (j := 2 + A) (by omega)
  have rz := hx.frozen (2 + A)
  have HRA := Lib.hid (And.intro ra rz)
  have a0 : (0 : Int) ≤ (A : Int) := by omega
  have a1 : (A : Int) < 16 := by omega
  clear hblk hfr hb0 hx hf h1 h2 hX c2 f4 r0 r1 r4 ra rz
  go_enter Tryz.func56, Tryz.ntmps56
  go_wp2_with fail
  rw [HW.out]
  go_wp2_with fail
  refine (HTP.out).mono ?_
  rintro e w1 ⟨rfl, q, hq⟩
  subst w1
  have c2 : X.cell? ⟨g, 1046, none⟩ = some (.slice none 0 0) := HC.out.1
  have f4 : X.cell? ⟨fb, 4, none⟩ = some (.int .i64 0) := HC.out.2.1
  have r0 : X.cell? ⟨w.heap.size, 0, none⟩ = some (.int .i64 1) := HC.out.2.2.1
  have r1 : X.cell? ⟨w.heap.size, 1, none⟩ = some (.int .i64 A) := HC.out.2.2.2.1
  have r4 : X.cell? ⟨w.heap.size, 4, none⟩ = some (.int .i64 N) := HC.out.2.2.2.2
  have ra : X.cell? ⟨g, 2 + A, none⟩ = some _ := HRA.out.1
  have rz : X.frozen? ⟨g, 2 + A, none⟩ = false := HRA.out.2
  go_wp2_with fail
  go_region_held3 (fun Y => Y.cell? ⟨g, 1046, none⟩ = some (.slice none 0 0) ∧ Y.cell? ⟨fb, 4, none⟩ = some (.int .i64 0)) (first | (with_reducible assumption) | exact ⟨c2, f4⟩) (fail)
  go_wp2_with fail
  go_region_held3 (fun Y => Y.cell? ⟨w.heap.size, 1, none⟩ = some (.int .i64 A) ∧ Y.cell? ⟨w.heap.size, 4, none⟩ = some (.int .i64 N)) (first | (with_reducible assumption) | exact ⟨r1, r4⟩ | exact ⟨(far_cell hgw).trans r1, (far_cell hgw).trans r4⟩) (first | (go_at_call 19; refine (HI.out _).mono ?_; rintro e w' ⟨rfl, hw'⟩; subst w'))
  go_wp2_with fail
  go_ret
  exact ⟨rfl, HX.out.set (2 + A) (.int .u64 (intW N)), (HF.out.drewN _).setCell (p := ⟨g, 2 + A, none⟩) (.inl rfl) (.int .u64 (intW N))⟩
set_option maxRecDepth 100000 in
set_option maxHeartbeats 8000000 in
/-- the instruction mul, of two integers -/
theorem reckon_mc {w : World} {g : Nat} {F : Nat → Value} (hx : Bx w g F) (A B C : Nat) (hA : A < 16) (hB : B < 16) (hC : C < 16) (b c y z p r : Int) (hb : F (2 + B) = .int .u64 b) (hc : F (2 + C) = .int .u64 c) (b0 : 0 ≤ b) (b1 : b ≤ 18446744073709551615) (c0 : 0 ≤ c) (c1 : c ≤ 18446744073709551615) (ib : isIntB b = true) (ic : isIntB c = true) (yb : toI b = y) (zc : toI c = z) (hp : W (y * z) = p) (hr : intW p = r) :
    Calls Tryz.prog 57 #[.pointer (some ⟨g, 0, none⟩), .agg #[.int .i64 9, .int .i64 A, .int .i64 B, .int .i64 C, .int .i64 0]] w fun e w' => e = .returned (.int .i64 0) ∧ Bx w' g (mup F (2 + A) (.int .u64 r)) ∧ Fr (· = g) w w' := by
  obtain ⟨X, hX⟩ : ∃ X, w.alloc (.cells #[.int .i64 9, .int .i64 A, .int .i64 B, .int .i64 C, .int .i64 0] 66) = X := ⟨_, rfl⟩
  have hblk := heap_alloc_new w (.cells #[.int .i64 9, .int .i64 A, .int .i64 B, .int .i64 C, .int .i64 0] 66)
  have hfr := (Fr.refl (· = g) w).alloc (.cells #[.int .i64 9, .int .i64 A, .int .i64 B, .int .i64 C, .int .i64 0] 66)
  have hb0 : Below w.heap.size w (w.alloc (.cells #[.int .i64 9, .int .i64 A, .int .i64 B, .int .i64 C, .int .i64 0] 66)) := (Below.refl _ w).alloc (Nat.le_refl _) _
  rw [hX] at hblk hfr hb0
  have hgw : g ≠ w.heap.size := Nat.ne_of_lt hx.lt
  have hx := hx.below hb0
  have HW := Lib.hid hX
  have HI := Lib.hid (fun Y => show Calls _ _ _ Y (fun e w' => e = .returned (.int .u64 r) ∧ Y = w') from (int_any p Y).mono fun e w' ⟨h1, h2⟩ => ⟨by rw [h1, hr], h2⟩)
  have HIB := Lib.hid (fun Y => show Calls _ _ _ Y (fun e w' => e = .returned (.bool true) ∧ Y = w') from (isint_any b Y b0 b1).mono fun e w' ⟨h1, h2⟩ => ⟨by rw [h1, ib], h2⟩)
  have HIC := Lib.hid (fun Y => show Calls _ _ _ Y (fun e w' => e = .returned (.bool true) ∧ Y = w') from (isint_any c Y c0 c1).mono fun e w' ⟨h1, h2⟩ => ⟨by rw [h1, ic], h2⟩)
  have HTB := Lib.hid (fun Y => show Calls _ _ _ Y (fun e w' => e = .returned (.int .i64 y) ∧ Y = w') from (toint_any b Y b0 b1).mono fun e w' ⟨h1, h2⟩ => ⟨by rw [h1, yb], h2⟩)
  have HTC := Lib.hid (fun Y => show Calls _ _ _ Y (fun e w' => e = .returned (.int .i64 z) ∧ Y = w') from (toint_any c Y c0 c1).mono fun e w' ⟨h1, h2⟩ => ⟨by rw [h1, zc], h2⟩)
  have HRS := Lib.hid (fun Y => show Calls Tryz.prog 92 #[.int .i64 9, .int .i64 y, .int .i64 z] Y (fun e w' => e = .returned (.tuple #[.int .i64 p, .int .i64 0]) ∧ Y = w') from by
    have HM := Lib.hid (mul_any y z Y)
    rw [hp] at HM
    go_enter Tryz.func92, Tryz.ntmps92
    go_wp2_with fail
    refine (HM.out).mono ?_
    rintro e w' ⟨rfl, rfl⟩
    go_wp2_with fail
    go_ret2
    exact ⟨rfl, rfl⟩)
  have HX := Lib.hid hx
  have HF := Lib.hid hfr
  have r0 : X.cell? ⟨w.heap.size, 0, none⟩ = some (.int .i64 9) := mc_cell hblk 0
  have r1 : X.cell? ⟨w.heap.size, 1, none⟩ = some (.int .i64 A) := mc_cell hblk 1
  have r2 : X.cell? ⟨w.heap.size, 2, none⟩ = some (.int .i64 B) := mc_cell hblk 2
  have r3 : X.cell? ⟨w.heap.size, 3, none⟩ = some (.int .i64 C) := mc_cell hblk 3
  have g1 := hx.cell (j := 2 + B) (by omega)
  rw [hb] at g1
  have g2 := hx.cell (j := 2 + C) (by omega)
  rw [hc] at g2
  have ra := hx.cell (j := 2 + A) (by omega)
  have rz := hx.frozen (2 + A)
  have i0 : (0 : Int) ≤ (A : Int) := by omega
  have i1 : (A : Int) < 16 := by omega
  have i2 : (0 : Int) ≤ (B : Int) := by omega
  have i3 : (B : Int) < 16 := by omega
  have i4 : (0 : Int) ≤ (C : Int) := by omega
  have i5 : (C : Int) < 16 := by omega
  clear hblk hfr hb0 hx hb hc hX ib ic yb zc hp hr b0 b1 c0 c1
  go_enter Tryz.func57, Tryz.ntmps57
  go_wp2_with fail
  rw [HW.out]
  go_region_held3 (fun Y => Y.cell? ⟨w.heap.size, 2, none⟩ = some (.int .i64 B) ∧ Y.cell? ⟨g, 2 + B, none⟩ = some (.int .u64 b)) (first | (with_reducible assumption) | exact ⟨r2, g1⟩) (first | (go_at_call 89; refine (HIB.out _).mono ?_; rintro e w' ⟨rfl, hw'⟩; subst w'))
  go_wp2_with fail
  go_region_held3 (fun Y => Y.cell? ⟨w.heap.size, 2, none⟩ = some (.int .i64 B) ∧ Y.cell? ⟨g, 2 + B, none⟩ = some (.int .u64 b)) (first | (with_reducible assumption) | exact ⟨r2, g1⟩) (first | (go_at_call 90; refine (HTB.out _).mono ?_; rintro e w' ⟨rfl, hw'⟩; subst w'))
  go_wp2_with fail
  go_region_held3 (fun Y => Y.cell? ⟨w.heap.size, 3, none⟩ = some (.int .i64 C) ∧ Y.cell? ⟨g, 2 + C, none⟩ = some (.int .u64 c)) (first | (with_reducible assumption) | exact ⟨r3, g2⟩) (first | (go_at_call 89; refine (HIC.out _).mono ?_; rintro e w' ⟨rfl, hw'⟩; subst w'))
  go_wp2_with fail
  go_region_held3 (fun Y => Y.cell? ⟨w.heap.size, 0, none⟩ = some (.int .i64 9) ∧ Y.cell? ⟨w.heap.size, 3, none⟩ = some (.int .i64 C) ∧ Y.cell? ⟨g, 2 + C, none⟩ = some (.int .u64 c)) (first | (with_reducible assumption) | exact ⟨r0, r3, g2⟩) (first | (go_at_call 90; refine (HTC.out _).mono ?_; rintro e w' ⟨rfl, hw'⟩; subst w') | (go_at_call 92; refine (HRS.out _).mono ?_; rintro e w' ⟨rfl, hw'⟩; subst w'))
  go_wp2_with fail
  go_region_held3 (fun Y => Y.cell? ⟨w.heap.size, 1, none⟩ = some (.int .i64 A)) (first | (with_reducible assumption) | exact r1 | exact (far_cell hgw).trans r1) (first | (go_at_call 19; refine (HI.out _).mono ?_; rintro e w' ⟨rfl, hw'⟩; subst w'))
  go_wp2_with fail
  go_ret
  exact ⟨rfl, HX.out.set (2 + A) (.int .u64 r), (((((HF.out.setCell (p := ⟨g, 2 + A, none⟩) (.inl rfl) (.int .u64 r)).drew).drew).drew).drew).drew⟩
end Go.Proofs.YtpoblealgooamaaGreatDoor
