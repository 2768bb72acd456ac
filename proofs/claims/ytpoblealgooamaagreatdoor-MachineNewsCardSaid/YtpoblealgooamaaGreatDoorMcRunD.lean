/- What an instruction does: int, mul, return. Conditions: the machine's cells. -/
import Derived.Test.YtpoblealgooamaaGreatDoorMcRun
namespace Go.Proofs.YtpoblealgooamaaGreatDoor
open Go Go.RowKit
theorem box_fr (w : World) (g : Nat) (o : Obj) : Fr (· = g) w (w.alloc o) := (Fr.refl (· = g) w).alloc o
set_option maxRecDepth 100000 in
set_option maxHeartbeats 8000000 in
theorem do_int {w : World} {g fb c n : Nat} {F : Nat → Value} {cd pl : Int} (hx : Bx w g F) (h1 : F 1045 = .slice (some ⟨fb, 0, none⟩) 1 c) (h2 : F 1046 = .slice none 0 0) (hf : Fb w fb cd pl n) (A : Nat) (hA : A < 16) (B C N : Int) :
    Calls Tryz.prog 30 #[.pointer (some ⟨g, 0, none⟩), .agg #[.int .i64 1, .int .i64 A, .int .i64 B, .int .i64 C, .int .i64 N]] w fun e w' => e = .returned (.int .i64 0) ∧ Bx w' g (mup F (2 + A) (.int .u64 (intW N))) ∧ Fr (· = g) w w' := by
  have hb0 : Below w.heap.size w (w.alloc (.cells #[.int .i64 1, .int .i64 A, .int .i64 B, .int .i64 C, .int .i64 N] 66)) := (Below.refl _ w).alloc (Nat.le_refl _) _
  have HC := Lib.hid (carry_mc (hx.below hb0) h1 h2 (hf.below hb0) A hA B C N)
  have HF := Lib.hid (box_fr w g (.cells #[.int .i64 1, .int .i64 A, .int .i64 B, .int .i64 C, .int .i64 N] 66))
  clear hx h1 h2 hf hb0
  go_enter Tryz.func30, Tryz.ntmps30
  go_wp2_with fail
  refine (HC.out).mono ?_
  rintro e w1 ⟨rfl, h1, h2⟩
  have HR := Lib.hid (And.intro h1 (HF.out.trans h2 (fun i hi => .inl hi)))
  clear h1 h2
  go_wp2_with fail
  go_ret
  exact ⟨rfl, HR.out⟩
set_option maxRecDepth 100000 in
set_option maxHeartbeats 8000000 in
theorem do_mul {w : World} {g : Nat} {F : Nat → Value} (hx : Bx w g F) (A B C : Nat) (hA : A < 16) (hB : B < 16) (hC : C < 16) (b c y z p r : Int) (hb : F (2 + B) = .int .u64 b) (hc : F (2 + C) = .int .u64 c) (b0 : 0 ≤ b) (b1 : b ≤ 18446744073709551615) (c0 : 0 ≤ c) (c1 : c ≤ 18446744073709551615) (ib : isIntB b = true) (ic : isIntB c = true) (yb : toI b = y) (zc : toI c = z) (hp : W (y * z) = p) (hr : intW p = r) :
    Calls Tryz.prog 30 #[.pointer (some ⟨g, 0, none⟩), .agg #[.int .i64 9, .int .i64 A, .int .i64 B, .int .i64 C, .int .i64 0]] w fun e w' => e = .returned (.int .i64 0) ∧ Bx w' g (mup F (2 + A) (.int .u64 r)) ∧ Fr (· = g) w w' := by
  have hb0 : Below w.heap.size w (w.alloc (.cells #[.int .i64 9, .int .i64 A, .int .i64 B, .int .i64 C, .int .i64 0] 66)) := (Below.refl _ w).alloc (Nat.le_refl _) _
  have HC := Lib.hid (reckon_mc (hx.below hb0) A B C hA hB hC b c y z p r hb hc b0 b1 c0 c1 ib ic yb zc hp hr)
  have HF := Lib.hid (box_fr w g (.cells #[.int .i64 9, .int .i64 A, .int .i64 B, .int .i64 C, .int .i64 0] 66))
  clear hx hb hc b0 b1 c0 c1 ib ic yb zc hp hr hb0
  go_enter Tryz.func30, Tryz.ntmps30
  go_wp2_with fail
  refine (HC.out).mono ?_
  rintro e w1 ⟨rfl, h1, h2⟩
  have HR := Lib.hid (And.intro h1 (HF.out.trans h2 (fun i hi => .inl hi)))
  clear h1 h2
  go_wp2_with fail
  go_ret
  exact ⟨rfl, HR.out⟩
set_option maxRecDepth 100000 in
set_option maxHeartbeats 8000000 in
theorem do_ret {w : World} {g fb c n : Nat} {F : Nat → Value} {cd pl : Int} (hx : Bx w g F) (h1 : F 1045 = .slice (some ⟨fb, 0, none⟩) 1 c) (h2 : F 1046 = .slice none 0 0) (h3 : F 1047 = .slice none 0 0) (hf : Fb w fb cd pl n) (hne : fb ≠ g) (A : Nat) (hA : A < 16) (wv : Int) (hv : F (2 + A) = .int .u64 wv) :
    Calls Tryz.prog 30 #[.pointer (some ⟨g, 0, none⟩), .agg #[.int .i64 28, .int .i64 A, .int .i64 0, .int .i64 0, .int .i64 0]] w fun e w' => e = .returned (.int .i64 1) ∧ Bx w' g (mup (mup (mup F 1046 (.slice none 0 0)) 1045 (.slice (some ⟨fb, 0, none⟩) 0 c)) 1044 (.int .u64 wv)) ∧ Fr (· = g) w w' := by
  have hb0 : Below w.heap.size w (w.alloc (.cells #[.int .i64 28, .int .i64 A, .int .i64 0, .int .i64 0, .int .i64 0] 66)) := (Below.refl _ w).alloc (Nat.le_refl _) _
  obtain ⟨X, hX⟩ : ∃ X, w.alloc (.cells #[.int .i64 28, .int .i64 A, .int .i64 0, .int .i64 0, .int .i64 0] 66) = X := ⟨_, rfl⟩
  rw [hX] at hb0
  have HX := Lib.hid hX
  have HCT := Lib.hid (show Calls Tryz.prog 60 #[.pointer (some ⟨g, 0, none⟩), .agg #[.int .i64 28, .int .i64 A, .int .i64 0, .int .i64 0, .int .i64 0]] X (fun e w' => e = .returned (.int .i64 1) ∧ Bx w' g (mup (mup (mup F 1046 (.slice none 0 0)) 1045 (.slice (some ⟨fb, 0, none⟩) 0 c)) 1044 (.int .u64 wv)) ∧ Fr (· = g) X w') from by
    have hx' := hx.below hb0
    have hf' := hf.below hb0
    have hb1 : Below X.heap.size X (X.alloc (.cells #[.int .i64 28, .int .i64 A, .int .i64 0, .int .i64 0, .int .i64 0] 66)) := (Below.refl _ X).alloc (Nat.le_refl _) _
    have hblk := heap_alloc_new X (.cells #[.int .i64 28, .int .i64 A, .int .i64 0, .int .i64 0, .int .i64 0] 66)
    obtain ⟨Y, hY⟩ : ∃ Y, X.alloc (.cells #[.int .i64 28, .int .i64 A, .int .i64 0, .int .i64 0, .int .i64 0] 66) = Y := ⟨_, rfl⟩
    rw [hY] at hb1 hblk
    have hfy : Fr (· = g) X Y := by rw [← hY]; exact box_fr _ _ _
    have hx2 := hx'.below hb1
    have HTP := Lib.hid (top_mc hx2 h1)
    have HLV := Lib.hid (fun (q : Nat) => leave_mc (w := Y.drewN q) (F := F) hx2 h1 h2 h3 ((hf'.below hb1).keep rfl) hne wv)
    have r0 : Y.cell? ⟨X.heap.size, 0, none⟩ = some (.int .i64 28) := mc_cell hblk 0
    have r1 : Y.cell? ⟨X.heap.size, 1, none⟩ = some (.int .i64 A) := mc_cell hblk 1
    have ra := hx2.cell (j := 2 + A) (by omega)
    rw [hv] at ra
    have HY := Lib.hid hY
    have HV := Lib.hid hv
    have HGX := Lib.hid hx'.lt
    have HFY := Lib.hid hfy
    have a0 : (0 : Int) ≤ (A : Int) := by omega
    have a1 : (A : Int) < 16 := by omega
    clear hx' hf' hb1 hblk hY hfy hx2
    go_enter Tryz.func60, Tryz.ntmps60
    go_wp2_with fail
    rw [HY.out]
    go_wp2_with fail
    refine (HTP.out).mono ?_
    rintro e w1 ⟨rfl, q, hq⟩
    subst w1
    go_wp2_with fail
    have hd : Y.cell? ⟨X.heap.size, 1, none⟩ = some (.int .i64 A) ∧ Y.cell? ⟨g, 2 + A, none⟩ = some (.int .u64 wv) := ⟨r1, ra⟩
    have hvf : (mup (mup (mup F 1046 (.slice none 0 0)) 1045 (.slice (some ⟨fb, 0, none⟩) 0 c)) 1044 (.int .u64 wv)) (2 + A) = .int .u64 wv := by rw [mup_other (by omega), mup_other (by omega), mup_other (by omega)]; exact HV.out
    have hgX : ¬ X.heap.size = g := by have := HGX.out; omega
    go_region_held3 (fun Y => Y.cell? ⟨X.heap.size, 1, none⟩ = some (.int .i64 A) ∧ Y.cell? ⟨g, 2 + A, none⟩ = some (.int .u64 wv)) (first | (with_reducible assumption) | exact hd)
      (first | (go_at_call 104; (with_reducible refine (HLV.out (q + 1)).mono ?_); rintro e w9 ⟨rfl, hx9, hf9⟩; have k1 : w9.cell? ⟨X.heap.size, 1, none⟩ = some (.int .i64 A) := hf9.cell_some r1 hgX; have k2 := (hx9.cell (j := 2 + A) (by omega)).trans (by rw [hvf]); have k3 := And.intro k1 k2))
    have HR := Lib.hid (And.intro hx9 ((HFY.out.drewN (q + 1)).trans hf9 (fun i hi => .inl hi)))
    clear hx9 hf9 k1 k2 k3 hd
    go_wp2_with fail
    go_ret
    exact ⟨rfl, HR.out⟩)
  have HF := Lib.hid (show Fr (· = g) w X by rw [← hX]; exact box_fr _ _ _)
  clear hx h1 h2 h3 hf hv hb0 hX
  go_enter Tryz.func30, Tryz.ntmps30
  go_wp2_with fail
  rw [HX.out]
  refine HCT.out.mono ?_
  rintro e w1 ⟨rfl, h1, h2⟩
  have HR := Lib.hid (And.intro h1 (HF.out.trans h2 (fun i hi => .inl hi)))
  clear h1 h2
  go_wp2_with fail
  go_ret
  exact ⟨rfl, HR.out⟩
end Go.Proofs.YtpoblealgooamaaGreatDoor
