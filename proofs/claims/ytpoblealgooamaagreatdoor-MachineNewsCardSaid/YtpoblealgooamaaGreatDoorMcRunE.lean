/- The run of the fixed code. Conditions: it is loaded; the table of operations is as laid. -/
import Derived.Test.YtpoblealgooamaaGreatDoorMcRunC
import Derived.Test.YtpoblealgooamaaGreatDoorMcRunD
import Derived.Test.YtpoblealgooamaaGreatDoorMcWords
namespace Go.Proofs.YtpoblealgooamaaGreatDoor
open Go Go.RowKit Go.Proofs.YtpoblealgooamaaGreatDoor.IsaL
def fk0 (F : Nat → Value) (fb c : Nat) : Nat → Value := mup (mup F 1044 (.int .u64 1)) 1045 (.slice (some ⟨fb, 0, none⟩) 1 c)
def fk1 (F : Nat → Value) (fb c : Nat) : Nat → Value := mup (fk0 F fb c) (2 + 2) (.int .u64 11)
def fk2 (F : Nat → Value) (fb c : Nat) : Nat → Value := mup (fk1 F fb c) (2 + 3) (.int .u64 18446744073709551603)
def fk3 (F : Nat → Value) (fb c : Nat) : Nat → Value := mup (fk2 F fb c) (2 + 2) (.int .u64 18446744073709551547)
/-- the machine's cells ahead of round k -/
def fk (F : Nat → Value) (fb c : Nat) : Nat → Nat → Value
  | 0 => fk0 F fb c
  | 1 => fk1 F fb c
  | 2 => fk2 F fb c
  | _ => fk3 F fb c
theorem fk0_far (F : Nat → Value) (fb c j : Nat) (h1 : j ≠ 1044) (h2 : j ≠ 1045) : fk0 F fb c j = F j := by unfold fk0; rw [mup_other h2, mup_other h1]
theorem fk1_far (F : Nat → Value) (fb c j : Nat) (h : 18 ≤ j) (h1 : j ≠ 1044) (h2 : j ≠ 1045) : fk1 F fb c j = F j := by unfold fk1; rw [mup_other (by omega), fk0_far F fb c j h1 h2]
theorem fk2_far (F : Nat → Value) (fb c j : Nat) (h : 18 ≤ j) (h1 : j ≠ 1044) (h2 : j ≠ 1045) : fk2 F fb c j = F j := by unfold fk2; rw [mup_other (by omega), fk1_far F fb c j h h1 h2]
theorem fk_far (F : Nat → Value) (fb c k j : Nat) (h : 18 ≤ j) (h1 : j ≠ 1044) (h2 : j ≠ 1045) : fk F fb c k j = F j := by
  match k with
  | 0 => exact fk0_far F fb c j h1 h2
  | 1 => exact fk1_far F fb c j h h1 h2
  | 2 => exact fk2_far F fb c j h h1 h2
  | k + 3 => show fk3 F fb c j = F j; unfold fk3; rw [mup_other (by omega), fk2_far F fb c j h h1 h2]
theorem fk_e0 (F : Nat → Value) (fb c : Nat) : fk F fb c 0 = fk0 F fb c := rfl
theorem fk_e1 (F : Nat → Value) (fb c : Nat) : fk F fb c 1 = fk1 F fb c := rfl
theorem fk_e2 (F : Nat → Value) (fb c : Nat) : fk F fb c 2 = fk2 F fb c := rfl
theorem fk_e3 (F : Nat → Value) (fb c k : Nat) : fk F fb c (k + 3) = fk3 F fb c := rfl
theorem fk3_z (F : Nat → Value) (fb c : Nat) (h : fk2 F fb c 0 = F 0) : fk3 F fb c 0 = F 0 := by unfold fk3; rw [mup_other (by omega), h]
theorem fk3_f (F : Nat → Value) (fb c : Nat) (h : fk2 F fb c 1045 = .slice (some ⟨fb, 0, none⟩) 1 c) : fk3 F fb c 1045 = .slice (some ⟨fb, 0, none⟩) 1 c := by unfold fk3; rw [mup_other (by omega), h]
theorem fk0_z (F : Nat → Value) (fb c : Nat) : fk0 F fb c 0 = F 0 := fk0_far F fb c 0 (by omega) (by omega)
theorem fk1_z (F : Nat → Value) (fb c : Nat) : fk1 F fb c 0 = F 0 := by unfold fk1; rw [mup_other (by omega), fk0_z]
theorem fk2_z (F : Nat → Value) (fb c : Nat) : fk2 F fb c 0 = F 0 := by unfold fk2; rw [mup_other (by omega), fk1_z]
theorem fk_zero (F : Nat → Value) (fb c k : Nat) : fk F fb c k 0 = F 0 := by
  match k with
  | 0 => rw [fk_e0, fk0_z]
  | 1 => rw [fk_e1, fk1_z]
  | 2 => rw [fk_e2, fk2_z]
  | k + 3 => rw [fk_e3]; exact fk3_z F fb c (fk2_z F fb c)
theorem fk0_f (F : Nat → Value) (fb c : Nat) : fk0 F fb c 1045 = .slice (some ⟨fb, 0, none⟩) 1 c := by unfold fk0; rw [mup_same]
theorem fk1_f (F : Nat → Value) (fb c : Nat) : fk1 F fb c 1045 = .slice (some ⟨fb, 0, none⟩) 1 c := by unfold fk1; rw [mup_other (by omega), fk0_f]
theorem fk2_f (F : Nat → Value) (fb c : Nat) : fk2 F fb c 1045 = .slice (some ⟨fb, 0, none⟩) 1 c := by unfold fk2; rw [mup_other (by omega), fk1_f]
theorem fk_fr (F : Nat → Value) (fb c k : Nat) : fk F fb c k 1045 = .slice (some ⟨fb, 0, none⟩) 1 c := by
  match k with
  | 0 => rw [fk_e0, fk0_f]
  | 1 => rw [fk_e1, fk1_f]
  | 2 => rw [fk_e2, fk2_f]
  | k + 3 => rw [fk_e3]; exact fk3_f F fb c (fk2_f F fb c)
def insK (k : Nat) : I5 := kL.getD k (0, 0, 0, 0, 0)
section
variable {w0 w : World} {g b fb c : Nat} {F : Nat → Value} {R : Nat → Value}
set_option maxRecDepth 100000 in
theorem fetch_k (hb0 : Below w0.heap.size w0 w) (hops : Ops w0) {k : Nat} (hk : k < 4) (hx : Bx w g (fk F fb c k)) (h0 : F 0 = .pointer (some ⟨b, 0, none⟩)) (hf : Fb w fb 2 (k : Int) 4) (m : Mem w b 64 0 R [obK kW 4] []) (z : WF 64 0 [obK kW 4] []) :
    Calls Tryz.prog 28 #[.pointer (some ⟨g, 0, none⟩)] w fun e w' => e = .returned (.tuple #[.agg #[.int .i64 (insK k).1, .int .i64 (insK k).2.1, .int .i64 (insK k).2.2.1, .int .i64 (insK k).2.2.2.1, .int .i64 (insK k).2.2.2.2], .bool true]) ∧ Fb w' fb 2 ((k + 1 : Nat) : Int) 4 ∧ Fr (· = fb) w w' := by
  have h0' : fk F fb c k 0 = .pointer (some ⟨b, 0, none⟩) := by rw [fk_zero]; exact h0
  match k, hk with
  | 0, _ => exact fetch_mc hb0 hops hx h0' (fk_fr ..) hf m z rfl (y := 21474836993) rfl (by omega) k_d1
  | 1, _ => exact fetch_mc hb0 hops hx h0' (fk_fr ..) hf m z rfl (y := 18446744043644781313) rfl (by omega) k_d2
  | 2, _ => exact fetch_mc hb0 hops hx h0' (fk_fr ..) hf m z rfl (y := 50463241) rfl (by omega) k_d3
  | 3, _ => exact fetch_mc hb0 hops hx h0' (fk_fr ..) hf m z rfl (y := 540) rfl (by omega) k_d4
set_option maxRecDepth 100000 in
theorem do_k {k : Nat} (hk : k < 3) (hx : Bx w g (fk F fb c k)) (h2 : F 1046 = .slice none 0 0) {pl : Int} (hf : Fb w fb 2 pl 4) :
    Calls Tryz.prog 30 #[.pointer (some ⟨g, 0, none⟩), .agg #[.int .i64 (insK k).1, .int .i64 (insK k).2.1, .int .i64 (insK k).2.2.1, .int .i64 (insK k).2.2.2.1, .int .i64 (insK k).2.2.2.2]] w fun e w' => e = .returned (.int .i64 0) ∧ Bx w' g (fk F fb c (k + 1)) ∧ Fr (· = g) w w' := by
  have h46 : fk F fb c k 1046 = .slice none 0 0 := by rw [fk_far F fb c k 1046 (by omega) (by omega) (by omega)]; exact h2
  match k, hk with
  | 0, _ => exact do_int hx (fk_fr ..) h46 hf 2 (by omega) 0 0 5
  | 1, _ => exact do_int hx (fk_fr ..) h46 hf 3 (by omega) 0 0 (-7)
  | 2, _ => exact do_mul hx 2 2 3 (by omega) (by omega) (by omega) 11 18446744073709551603 5 (-7) (-35) 18446744073709551547 (by show fk2 F fb c (2 + 2) = _; unfold fk2 fk1; rw [mup_other (by omega), mup_same]) (by show fk2 F fb c (2 + 3) = _; unfold fk2; rw [mup_same]) (by decide) (by decide) (by decide) (by decide) (by decide) (by decide) (by decide) (by decide) (by decide) (by decide)
set_option maxRecDepth 100000 in
theorem do_3 (hx : Bx w g (fk F fb c 3)) (h2 : F 1046 = .slice none 0 0) (h3 : F 1047 = .slice none 0 0) {pl : Int} (hf : Fb w fb 2 pl 4) (hne : fb ≠ g) :
    Calls Tryz.prog 30 #[.pointer (some ⟨g, 0, none⟩), .agg #[.int .i64 (insK 3).1, .int .i64 (insK 3).2.1, .int .i64 (insK 3).2.2.1, .int .i64 (insK 3).2.2.2.1, .int .i64 (insK 3).2.2.2.2]] w fun e w' => e = .returned (.int .i64 1) ∧ Bx w' g (mup (mup (mup (fk F fb c 3) 1046 (.slice none 0 0)) 1045 (.slice (some ⟨fb, 0, none⟩) 0 c)) 1044 (.int .u64 18446744073709551547)) ∧ Fr (· = g) w w' :=
  do_ret hx (fk_fr ..) (by rw [fk_far F fb c 3 1046 (by omega) (by omega) (by omega)]; exact h2) (by rw [fk_far F fb c 3 1047 (by omega) (by omega) (by omega)]; exact h3) hf hne 2 (by omega) 18446744073709551547 (by rw [show fk F fb c 3 = fk3 F fb c from fk_e3 F fb c 0]; unfold fk3; rw [mup_same])
end
theorem mcE_far (F : Nat → Value) (j : Nat) (h : ¬ (2 ≤ j ∧ j < 18)) (h1 : j ≠ 1045) (h2 : j ≠ 1046) (h3 : j ≠ 1047) : mcE F j = F j := by
  unfold mcE
  rw [mup_other h3, mup_other h2, mup_other h1]
  unfold mcE1
  rw [if_neg (by omega)]
theorem fk_end (F : Nat → Value) (fb c : Nat) : mcE (mup (mup (mup (fk F fb c 3) 1046 (.slice none 0 0)) 1045 (.slice (some ⟨fb, 0, none⟩) 0 c)) 1044 (.int .u64 18446744073709551547)) 0 = F 0 ∧ mcE (mup (mup (mup (fk F fb c 3) 1046 (.slice none 0 0)) 1045 (.slice (some ⟨fb, 0, none⟩) 0 c)) 1044 (.int .u64 18446744073709551547)) 1044 = .int .u64 18446744073709551547 := by
  refine ⟨?_, ?_⟩
  · rw [mcE_far _ 0 (by omega) (by omega) (by omega) (by omega), mup_other (by omega), mup_other (by omega), mup_other (by omega), fk_zero]
  · rw [mcE_far _ 1044 (by omega) (by omega) (by omega) (by omega), mup_same]
theorem ins_ne {k : Nat} (hk : k < 4) : ((insK k).1 == 15) = false := by
  match k, hk with
  | 0, _ => rfl
  | 1, _ => rfl
  | 2, _ => rfl
  | 3, _ => rfl
/-- ahead of round k -/
structure RS (w0 : World) (g b fb c r9 : Nat) (F : Nat → Value) (R : Nat → Value) (k : Nat) (wr : World) : Prop where
  bx : Bx wr g (fk F fb c k)
  fb : Fb wr fb 2 (k : Int) 4
  m : Mem wr b 64 0 R [obK kW 4] []
  base : Below w0.heap.size w0 wr
  rc : wr.heap[r9]? = some (.cells #[.int .i64 0, .int .i64 (k : Int)] 35 (0, 0))
set_option maxRecDepth 100000 in
set_option maxHeartbeats 16000000 in
theorem run_k {w0 w : World} {g b : Nat} {F : Nat → Value} {R : Nat → Value} (hb0 : Below w0.heap.size w0 w) (hops : Ops w0) (hx : Bx w g F) (h0 : F 0 = .pointer (some ⟨b, 0, none⟩)) (hc : F 1043 = .int .u64 2) (h45 : F 1045 = .slice none 0 0) (h46 : F 1046 = .slice none 0 0) (h47 : F 1047 = .slice none 0 0) (hg0 : w0.heap.size ≤ g) (m : Mem w b 64 0 R [obK kW 4] []) (z : WF 64 0 [obK kW 4] []) (hO : ∀ i, Own b R i → w0.heap.size ≤ i ∧ i ≠ g) :
    Calls Tryz.prog 11 #[.pointer (some ⟨g, 0, none⟩), .int .i64 9, .int .i64 0, .int .i64 0] w fun e w' => e = .returned (.agg #[.int .i64 1, .int .i64 4]) ∧ (∃ F', Bx w' g F' ∧ F' 0 = .pointer (some ⟨b, 0, none⟩) ∧ F' 1044 = .int .u64 18446744073709551547) ∧ Below w0.heap.size w0 w' := by
  have hbX := mcb_one w (.cells #[.int .i64 0, .int .i64 0] 35)
  have hnX := heap_alloc_new w (.cells #[.int .i64 0, .int .i64 0] 35)
  obtain ⟨X, hX⟩ : ∃ X, w.alloc (.cells #[.int .i64 0, .int .i64 0] 35) = X := ⟨_, rfl⟩
  rw [hX] at hbX hnX
  have HX := Lib.hid hX
  have hxX := hx.below hbX
  have hmX := m.below hbX
  have hgw := hx.lt
  have HNO := Lib.hid (none_mc hxX h0)
  have c43 := hxX.cell (j := 1043) (by omega)
  rw [hc] at c43
  have HIP := Lib.hid (fun Y => show Calls Tryz.prog 26 #[.int .u64 2] Y (fun e w' => e = .returned (.bool true) ∧ Y = w') from (isptr_any 2 Y (by omega) (by omega)).mono fun e w' ⟨h1, h2⟩ => ⟨by rw [h1]; rfl, h2⟩)
  have HBG := Lib.hid (begin_mc hxX h0 hc h45 h46 hmX z rfl rfl (by decide) (fun i hi => (hO i hi).2))
  have HALL := Lib.hid (And.intro (hb0.trans (hbX.mono hb0.size)) (And.intro hnX (And.intro hmX hxX)))
  have HO := Lib.hid hO
  have HOP := Lib.hid hops
  have H0 := Lib.hid h0
  have H46 := Lib.hid h46
  have H47 := Lib.hid h47
  have HZ := Lib.hid z
  have hwX : w.heap.size < X.heap.size := (Array.getElem?_eq_some_iff.1 hnX).1
  have hw0 := hb0.size
  have hmin : min (max (9 : Int) 0) 1099511627776 = 9 := by decide
  have HOL := Lib.hid (fun i hi => m.own_lt i hi)
  clear hb0 hops hx h0 hc h45 h46 h47 m z hO hbX hnX hX hxX hmX
  go_enter Tryz.func11, Tryz.ntmps11
  go_wp2_with fail
  rw [HX.out]
  go_step3
  go_wp2_with fail
  refine HNO.out.mono ?_
  rintro e w' ⟨rfl, hw'⟩
  subst w'
  go_wp2_with (go_at_call 26; refine (HIP.out _).mono ?_; rintro e w' ⟨rfl, hw'⟩; subst w')
  refine HBG.out.mono ?_
  rintro e w3 ⟨⟨v, rfl⟩, fb, c, hx3, hf3, hfb, hfr3⟩
  have hb4 := mcb_one w3 (.cells #[.int .i64 0, .int .i64 0] 35)
  have hn4 := heap_alloc_new w3 (.cells #[.int .i64 0, .int .i64 0] 35)
  obtain ⟨X4, hX4⟩ : ∃ X4, w3.alloc (.cells #[.int .i64 0, .int .i64 0] 35) = X4 := ⟨_, rfl⟩
  obtain ⟨r9, hr9⟩ : ∃ r9, w3.heap.size = r9 := ⟨_, rfl⟩
  have hb3 : Below w0.heap.size w0 w3 := HALL.out.1.trans (hfr3.below HALL.out.1.size (fun i hi => by rw [hi]; exact hg0))
  have hm3 := HALL.out.2.2.1.kept hfr3 (fun i hi => (HO.out i hi).2)
  have hrc : w3.heap[w.heap.size]? = some (.cells #[.int .i64 0, .int .i64 0] 35 (0, 0)) := (hfr3.block w.heap.size hwX (by omega)).trans HALL.out.2.1
  have hs3 := hfr3.size
  have hlt3 := hf3.lt
  rw [hX4] at hb4 hn4
  rw [hr9] at hn4 hlt3 hs3
  have hRS : RS w0 g b fb c r9 F R 0 X4 := ⟨hx3.below hb4, hf3.below hb4, hm3.below hb4, hb3.trans (hb4.mono hb3.size), hn4⟩
  have HR8 := Lib.hid ((hb4.block w.heap.size (by omega)).trans hrc)
  have HX4 := Lib.hid (And.intro hX4 hr9)
  have HRS := Lib.hid hRS
  have ho9 : ∀ i, Own b R i → i < w.heap.size := fun i hi => HOL.out i hi
  have HO9 := Lib.hid ho9
  clear hx3 hf3 hfr3 hb4 hn4 hb3 hm3 hrc hX4 hr9 hRS ho9
  go_wp2_with fail
  go_step3
  go_wp2_with fail
  rw [HX4.out.1, HX4.out.2]
  go_loopw [31] (fun _ wr => ∃ k : Nat, k < 4 ∧ RS w0 g b fb c r9 F R k wr ∧ wr.heap[w.heap.size]? = some (.cells #[.int .i64 0, .int .i64 0] 35 (0, 0))) (fun _ wr => 4 - (intOf ((wr.cell? ⟨r9, 1, none⟩).getD undef)).toNat)
  case atStart => exact ⟨0, by omega, HRS.out, HR8.out⟩
  case round =>
    obtain ⟨k, hk, hR, h8⟩ := hrel
    have r0 : wr.cell? ⟨r9, 0, none⟩ = some (.int .i64 0) := mc_cell hR.rc 0
    have r1 : wr.cell? ⟨r9, 1, none⟩ = some (.int .i64 (k : Int)) := mc_cell hR.rc 1
    have z1 := mc_froz hR.rc 1
    have hr9l : r9 < wr.heap.size := (Array.getElem?_eq_some_iff.1 hR.rc).1
    have hng : r9 ≠ g := by omega
    have hnf : r9 ≠ fb := by omega
    have hgf : g ≠ fb := by omega
    have hfs : Fr (· = r9) wr (wr.setCell ⟨r9, 1, none⟩ (.int .i64 ((k : Int) + 1))) := (Fr.refl (· = r9) wr).setCell (p := ⟨r9, 1, none⟩) (.inl rfl) _
    have hb1 : Below w0.heap.size w0 (wr.setCell ⟨r9, 1, none⟩ (.int .i64 ((k : Int) + 1))) := hR.base.setCell (p := ⟨r9, 1, none⟩) (by show w0.heap.size ≤ r9; omega) _
    have hx1 := hR.bx.fr hfs (by omega)
    have hf1 := hR.fb.fr hfs (by omega)
    have hm1 := hR.m.kept hfs (fun i hi e => by have := HO9.out i hi; omega)
    have hc1 : (wr.setCell ⟨r9, 1, none⟩ (.int .i64 ((k : Int) + 1))).heap[r9]? = some (.cells #[.int .i64 0, .int .i64 ((k : Int) + 1)] 35 (0, 0)) := by
      show (wr.heap.modify r9 _)[r9]? = _
      rw [Array.getElem?_modify, if_pos rfl, hR.rc]
      rfl
    have h81 : (wr.setCell ⟨r9, 1, none⟩ (.int .i64 ((k : Int) + 1))).heap[w.heap.size]? = some (.cells #[.int .i64 0, .int .i64 0] 35 (0, 0)) := (hfs.block w.heap.size (by have := (Array.getElem?_eq_some_iff.1 h8).1; omega) (by omega)).trans h8
    have hft := fetch_k hb1 HOP.out hk hx1 H0.out hf1 hm1 HZ.out
    have hne := ins_ne hk
    obtain ⟨Y1, hY1⟩ : ∃ Y1, wr.setCell ⟨r9, 1, none⟩ (.int .i64 ((k : Int) + 1)) = Y1 := ⟨_, rfl⟩
    rw [hY1] at hb1 hx1 hf1 hm1 hc1 h81 hft
    have HY1 := Lib.hid hY1
    have HFT := Lib.hid hft
    have HK1 := Lib.hid (And.intro hb1 (And.intro hx1 (And.intro hm1 (And.intro hc1 h81))))
    have d9 : decide ((9 : Int) ≤ (k : Int)) = false := decide_eq_false (by omega)
    have hk0 : (k : Int) < 4 := by omega
    clear hR h8 hfs hb1 hx1 hf1 hm1 hc1 h81 hft hY1
    go_wp2_with fail
    rw [HY1.out]
    refine HFT.out.mono ?_
    rintro e w5 ⟨rfl, hf5, hfr5⟩
    have hr9s : r9 < Y1.heap.size := (Array.getElem?_eq_some_iff.1 HK1.out.2.2.2.1).1
    have h8s : w.heap.size < Y1.heap.size := (Array.getElem?_eq_some_iff.1 HK1.out.2.2.2.2).1
    have hx5 := HK1.out.2.1.fr hfr5 hgf
    have hb5 : Below w0.heap.size w0 w5 := HK1.out.1.trans (hfr5.below HK1.out.1.size (fun i hi => by rw [hi]; omega))
    have hm5 := HK1.out.2.2.1.kept hfr5 (fun i hi e => by have := HO9.out i hi; omega)
    have hc5 := (hfr5.block r9 hr9s hnf).trans HK1.out.2.2.2.1
    have h85 := (hfr5.block w.heap.size h8s (by omega)).trans HK1.out.2.2.2.2
    obtain ⟨⟨io, ia, ib, ic, inn⟩, hins⟩ : ∃ x, insK k = x := ⟨_, rfl⟩
    have hb6 := mcb_one w5 (.cells #[.int .i64 io, .int .i64 ia, .int .i64 ib, .int .i64 ic, .int .i64 inn] 66)
    rcases (show k < 3 ∨ k = 3 by omega) with hk3 | rfl
    · have hdo := do_k hk3 (hx5.below hb6) H46.out (hf5.below hb6)
      rw [hins] at hdo hne ⊢
      simp only at hdo hne ⊢
      have HDO := Lib.hid hdo
      have HK5 := Lib.hid (And.intro hb6 (And.intro hb5 (And.intro hm5 (And.intro hc5 (And.intro h85 hf5)))))
      clear hx5 hb5 hm5 hc5 h85 hf5 hdo hb6 hins hfr5
      go_wp2_with fail
      refine HDO.out.mono ?_
      rintro e w7 ⟨rfl, hx7, hfr7⟩
      have hc7 := (hfr7.block r9 (by have := HK5.out.1.size; have := (Array.getElem?_eq_some_iff.1 HK5.out.2.2.2.1).1; omega) hng).trans ((HK5.out.1.block r9 (Array.getElem?_eq_some_iff.1 HK5.out.2.2.2.1).1).trans HK5.out.2.2.2.1)
      have h87 := (hfr7.block w.heap.size (by have := HK5.out.1.size; have := (Array.getElem?_eq_some_iff.1 HK5.out.2.2.2.2.1).1; omega) (by omega)).trans ((HK5.out.1.block w.heap.size (Array.getElem?_eq_some_iff.1 HK5.out.2.2.2.2.1).1).trans HK5.out.2.2.2.2.1)
      have hfs : Fr (· = r9) w7 (w7.setCell ⟨r9, 0, none⟩ (.int .i64 0)) := (Fr.refl (· = r9) w7).setCell (p := ⟨r9, 0, none⟩) (.inl rfl) _
      have hb7 : Below w0.heap.size w0 w7 := (HK5.out.2.1.trans (HK5.out.1.mono HK5.out.2.1.size)).trans (hfr7.below (HK5.out.2.1.trans (HK5.out.1.mono HK5.out.2.1.size)).size (fun i hi => by rw [hi]; exact hg0))
      have hRN : RS w0 g b fb c r9 F R (k + 1) (w7.setCell ⟨r9, 0, none⟩ (.int .i64 0)) := by
        refine ⟨hx7.fr hfs (by omega), ((HK5.out.2.2.2.2.2.below HK5.out.1).fr hfr7 (by omega)).fr hfs (by omega), ((HK5.out.2.2.1.below HK5.out.1).kept hfr7 (fun i hi => (HO.out i hi).2)).kept hfs (fun i hi e => by have := HO9.out i hi; omega), hb7.setCell (p := ⟨r9, 0, none⟩) (by show w0.heap.size ≤ r9; omega) _, ?_⟩
        show (w7.heap.modify r9 _)[r9]? = _
        rw [Array.getElem?_modify, if_pos rfl, hc7]
        rfl
      have h8N := (hfs.block w.heap.size (by have := (Array.getElem?_eq_some_iff.1 h87).1; omega) (by omega)).trans h87
      have HRN := Lib.hid (And.intro hRN h8N)
      have q0 : w7.cell? ⟨r9, 0, none⟩ = some (.int .i64 0) := mc_cell hc7 0
      have y0 := mc_froz hc7 0
      have hme : 4 - (intOf (((w7.setCell ⟨r9, 0, none⟩ (.int .i64 0)).cell? ⟨r9, 1, none⟩).getD undef)).toNat < 4 - (intOf ((wr.cell? ⟨r9, 1, none⟩).getD undef)).toNat := by
        rw [mc_cell hRN.rc 1, r1]
        simp [intOf]
        omega
      have HME := Lib.hid hme
      clear hx7 hfr7 hc7 h87 hfs hb7 hRN h8N hme
      go_wp2_with fail
      go_roundw
      case rel => exact ⟨k + 1, by omega, HRN.out.1, HRN.out.2⟩
      case measure => exact HME.out
    · have hdo := do_3 (hx5.below hb6) H46.out H47.out (hf5.below hb6) hgf.symm
      rw [hins] at hdo hne ⊢
      simp only at hdo hne ⊢
      have HDO := Lib.hid hdo
      have HK5 := Lib.hid (And.intro hb6 (And.intro hb5 (And.intro hc5 h85)))
      clear hx5 hb5 hm5 hc5 h85 hf5 hdo hb6 hins hfr5
      go_wp2_with fail
      refine HDO.out.mono ?_
      rintro e w7 ⟨rfl, hx7, hfr7⟩
      have hc7 := (hfr7.block r9 (by have := HK5.out.1.size; have := (Array.getElem?_eq_some_iff.1 HK5.out.2.2.1).1; omega) hng).trans ((HK5.out.1.block r9 (Array.getElem?_eq_some_iff.1 HK5.out.2.2.1).1).trans HK5.out.2.2.1)
      have h87 := (hfr7.block w.heap.size (by have := HK5.out.1.size; have := (Array.getElem?_eq_some_iff.1 HK5.out.2.2.2).1; omega) (by omega)).trans ((HK5.out.1.block w.heap.size (Array.getElem?_eq_some_iff.1 HK5.out.2.2.2).1).trans HK5.out.2.2.2)
      have hfs : Fr (· = r9) w7 (w7.setCell ⟨r9, 0, none⟩ (.int .i64 1)) := (Fr.refl (· = r9) w7).setCell (p := ⟨r9, 0, none⟩) (.inl rfl) _
      have hb7 : Below w0.heap.size w0 w7 := (HK5.out.2.1.trans (HK5.out.1.mono HK5.out.2.1.size)).trans (hfr7.below (HK5.out.2.1.trans (HK5.out.1.mono HK5.out.2.1.size)).size (fun i hi => by rw [hi]; exact hg0))
      have hb8 : Below w0.heap.size w0 (w7.setCell ⟨r9, 0, none⟩ (.int .i64 1)) := hb7.setCell (p := ⟨r9, 0, none⟩) (by show w0.heap.size ≤ r9; omega) _
      have hc8 : (w7.setCell ⟨r9, 0, none⟩ (.int .i64 1)).heap[r9]? = some (.cells #[.int .i64 1, .int .i64 (((3 : Nat) : Int) + 1)] 35 (0, 0)) := by
        show (w7.heap.modify r9 _)[r9]? = _
        rw [Array.getElem?_modify, if_pos rfl, hc7]
        rfl
      have h88 := (hfs.block w.heap.size (by have := (Array.getElem?_eq_some_iff.1 h87).1; omega) (by omega)).trans h87
      have HEN := Lib.hid (end_any (hx7.fr hfs (by omega)))
      have HK8 := Lib.hid (And.intro hb8 (And.intro hc8 h88))
      have q0 : w7.cell? ⟨r9, 0, none⟩ = some (.int .i64 0) := mc_cell hc7 0
      have y0 := mc_froz hc7 0
      clear hx7 hfr7 hc7 h87 hfs hb7 hb8 hc8 h88
      go_wp2_with fail
      refine HEN.out.mono ?_
      rintro e w9 ⟨⟨v9, rfl⟩, hx9, hf9⟩
      have hc9 := (hf9.block r9 (Array.getElem?_eq_some_iff.1 HK8.out.2.1).1 hng).trans HK8.out.2.1
      have h89 := (hf9.block w.heap.size (Array.getElem?_eq_some_iff.1 HK8.out.2.2).1 (by omega)).trans HK8.out.2.2
      have hb9 : Below w0.heap.size w0 w9 := HK8.out.1.trans (hf9.below HK8.out.1.size (fun i hi => by rw [hi]; exact hg0))
      have p0 : w9.cell? ⟨r9, 0, none⟩ = some (.int .i64 1) := mc_cell hc9 0
      have p1 : w9.cell? ⟨r9, 1, none⟩ = some (.int .i64 4) := mc_cell hc9 1
      have t0 : w9.cell? ⟨w.heap.size, 0, none⟩ = some (.int .i64 0) := mc_cell h89 0
      have t1 : w9.cell? ⟨w.heap.size, 1, none⟩ = some (.int .i64 0) := mc_cell h89 1
      have v0 := mc_froz h89 0
      have v1 := mc_froz h89 1
      have hfz : Fr (· = w.heap.size) w9 ((w9.setCell ⟨w.heap.size, 0, none⟩ (.int .i64 1)).setCell ⟨w.heap.size, 1, none⟩ (.int .i64 4)) := ((Fr.refl (· = w.heap.size) w9).setCell (p := ⟨w.heap.size, 0, none⟩) (.inl rfl) _).setCell (p := ⟨w.heap.size, 1, none⟩) (.inl rfl) _
      have HX9 := Lib.hid (hx9.fr hfz (by omega))
      have HB9 := Lib.hid ((hb9.setCell (p := ⟨w.heap.size, 0, none⟩) hw0 (.int .i64 1)).setCell (p := ⟨w.heap.size, 1, none⟩) hw0 (.int .i64 4))
      have hn9 : r9 ≠ w.heap.size := by omega
      have hn8 : w.heap.size ≠ r9 := by omega
      clear hx9 hf9 hc9 h89 hb9 hfz q0 y0 r0 r1 z1
      go_wp2_with fail
      rw [Exit.noGoto_ret]
      refine bodyPost_ret (v := .agg #[.int .i64 1, .int .i64 4]) (by simp [results, Tryz.results11, go_sem, t0, t1]) rfl ?_
      exact ⟨rfl, ⟨_, HX9.out, by rw [(fk_end F fb c).1]; exact H0.out, (fk_end F fb c).2⟩, HB9.out⟩
end Go.Proofs.YtpoblealgooamaaGreatDoor
