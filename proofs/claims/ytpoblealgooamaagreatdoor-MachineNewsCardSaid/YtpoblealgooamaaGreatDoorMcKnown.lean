/- The statements' fixed call of machine (known) comes out as it must. Conditions: the table of operations is as laid. -/
import Derived.Test.YtpoblealgooamaaGreatDoorMcRunE
import Derived.Test.YtpoblealgooamaaGreatDoorMcLoadB
namespace Go.Proofs.YtpoblealgooamaaGreatDoor
open Go Go.RowKit Go.Proofs.YtpoblealgooamaaGreatDoor.IsaL
set_option maxRecDepth 100000 in
theorem value_mc {w : World} {g b : Nat} {F : Nat → Value} {v : Int} (hx : Bx w g F) (h0 : F 0 = .pointer (some ⟨b, 0, none⟩)) (hv : F 1044 = .int .u64 v) : Calls Tryz.prog 9 #[.pointer (some ⟨g, 0, none⟩)] w fun e w' => e = .returned (.int .u64 v) ∧ w' = w := by
  have HN := Lib.hid (none_mc hx h0)
  have c := hx.cell (j := 1044) (by omega)
  rw [hv] at c
  clear hx h0 hv
  go_enter Tryz.func9, Tryz.ntmps9
  go_wp2_with fail
  refine (HN.out).mono ?_
  rintro e w' ⟨rfl, hw'⟩
  subst w'
  go_wp2_with fail
  go_ret
  exact ⟨rfl, rfl⟩
theorem k_ins (w1 : World) (gi : Nat) (hg : w1.heap.size = gi) : InsR (w1.alloc (.cells #[.int .i64 1, .int .i64 2, .int .i64 0, .int .i64 0, .int .i64 5, .int .i64 1, .int .i64 3, .int .i64 0, .int .i64 0, .int .i64 (-7), .int .i64 9, .int .i64 2, .int .i64 2, .int .i64 3, .int .i64 0, .int .i64 28, .int .i64 2, .int .i64 0, .int .i64 0, .int .i64 0] 66)) gi kL := by
  subst hg
  have h := fun j => mc_cell (heap_alloc_new w1 (.cells #[.int .i64 1, .int .i64 2, .int .i64 0, .int .i64 0, .int .i64 5, .int .i64 1, .int .i64 3, .int .i64 0, .int .i64 0, .int .i64 (-7), .int .i64 9, .int .i64 2, .int .i64 2, .int .i64 3, .int .i64 0, .int .i64 28, .int .i64 2, .int .i64 0, .int .i64 0, .int .i64 0] 66)) j
  intro k x hx
  match k, hx with
  | 0, hx => obtain rfl := Option.some.inj hx; exact ⟨h 0, h 1, h 2, h 3, h 4⟩
  | 1, hx => obtain rfl := Option.some.inj hx; exact ⟨h 5, h 6, h 7, h 8, h 9⟩
  | 2, hx => obtain rfl := Option.some.inj hx; exact ⟨h 10, h 11, h 12, h 13, h 14⟩
  | 3, hx => obtain rfl := Option.some.inj hx; exact ⟨h 15, h 16, h 17, h 18, h 19⟩
  | j + 4, hx => simp [kL] at hx
theorem mcN_at (b : Nat) (S : Int) : mcN b S 0 = .pointer (some ⟨b, 0, none⟩) ∧ mcN b S 1045 = .slice none 0 0 ∧ mcN b S 1046 = .slice none 0 0 ∧ mcN b S 1047 = .slice none 0 0 := by
  unfold mcN
  refine ⟨?_, ?_, ?_, ?_⟩
  · rw [mcE_far _ 0 (by omega) (by omega) (by omega) (by omega)]
    unfold mcG1
    rw [if_neg (by omega)]
    unfold mcF
    rw [mup_other (by omega), mup_other (by omega), mup_other (by omega), mup_same]
  · unfold mcE
    rw [mup_other (by omega), mup_other (by omega), mup_same]
  · unfold mcE
    rw [mup_other (by omega), mup_same]
  · unfold mcE
    rw [mup_same]
set_option maxRecDepth 100000 in
theorem load_k {w w1 : World} (hops : Ops w) (hx : Bx w1 (w.heap.size + 1) (mcN w.heap.size 16)) (m : Mem w1 w.heap.size 64 0 (fun _ => .slice none 0 0) [] []) (hb : Below w.heap.size w w1) :
    Calls Tryz.prog 16 #[.pointer (some ⟨w.heap.size + 1, 0, none⟩), .slice (some ⟨w1.heap.size + 1, 0, none⟩) 1 1] ((w1.alloc (.cells #[.int .i64 1, .int .i64 2, .int .i64 0, .int .i64 0, .int .i64 5, .int .i64 1, .int .i64 3, .int .i64 0, .int .i64 0, .int .i64 (-7), .int .i64 9, .int .i64 2, .int .i64 2, .int .i64 3, .int .i64 0, .int .i64 28, .int .i64 2, .int .i64 0, .int .i64 0, .int .i64 0] 66)).alloc (.cells #[.slice none 0 0, .slice (some ⟨w1.heap.size, 0, none⟩) 4 4] 70)) fun e w' => e = .returned (.int .i64 0) ∧ (∃ F', Bx w' (w.heap.size + 1) F' ∧ F' 0 = .pointer (some ⟨w.heap.size, 0, none⟩) ∧ F' 1043 = .int .u64 2 ∧ F' 1045 = .slice none 0 0 ∧ F' 1046 = .slice none 0 0 ∧ F' 1047 = .slice none 0 0) ∧ (∃ R', Mem w' w.heap.size 64 0 R' [obK kW 4] [] ∧ ∀ i, Own w.heap.size R' i → w.heap.size ≤ i ∧ i ≠ w.heap.size + 1) ∧ WF 64 0 [obK kW 4] [] ∧ Below w.heap.size w w' := by
  have hs := hx.lt
  have hbA := mcb_one w1 (.cells #[.int .i64 1, .int .i64 2, .int .i64 0, .int .i64 0, .int .i64 5, .int .i64 1, .int .i64 3, .int .i64 0, .int .i64 0, .int .i64 (-7), .int .i64 9, .int .i64 2, .int .i64 2, .int .i64 3, .int .i64 0, .int .i64 28, .int .i64 2, .int .i64 0, .int .i64 0, .int .i64 0] 66)
  have hri := k_ins w1 w1.heap.size rfl
  have hsA : (w1.alloc (.cells #[.int .i64 1, .int .i64 2, .int .i64 0, .int .i64 0, .int .i64 5, .int .i64 1, .int .i64 3, .int .i64 0, .int .i64 0, .int .i64 (-7), .int .i64 9, .int .i64 2, .int .i64 2, .int .i64 3, .int .i64 0, .int .i64 28, .int .i64 2, .int .i64 0, .int .i64 0, .int .i64 0] 66)).heap.size = w1.heap.size + 1 := Array.size_push ..
  obtain ⟨X, hX⟩ : ∃ X, w1.alloc (.cells #[.int .i64 1, .int .i64 2, .int .i64 0, .int .i64 0, .int .i64 5, .int .i64 1, .int .i64 3, .int .i64 0, .int .i64 0, .int .i64 (-7), .int .i64 9, .int .i64 2, .int .i64 2, .int .i64 3, .int .i64 0, .int .i64 28, .int .i64 2, .int .i64 0, .int .i64 0, .int .i64 0] 66) = X := ⟨_, rfl⟩
  rw [hX] at hbA hri hsA ⊢
  have hbC := mcb_one X (.cells #[.slice none 0 0, .slice (some ⟨w1.heap.size, 0, none⟩) 4 4] 70)
  have hnC := heap_alloc_new X (.cells #[.slice none 0 0, .slice (some ⟨w1.heap.size, 0, none⟩) 4 4] 70)
  obtain ⟨Z, hZ⟩ : ∃ Z, X.alloc (.cells #[.slice none 0 0, .slice (some ⟨w1.heap.size, 0, none⟩) 4 4] 70) = Z := ⟨_, rfl⟩
  rw [hZ] at hbC hnC ⊢
  rw [hsA] at hnC
  obtain ⟨n0, n5, n6, n7⟩ := mcN_at w.heap.size 16
  have hbZ : Below w1.heap.size w1 Z := hbA.trans (hbC.mono hbA.size)
  refine (load_mc (w0 := w) (W := 64) (g := w.heap.size + 1) (b := w.heap.size) (gi := w1.heap.size) (gc := w1.heap.size + 1) (n := 4) (cp := 4) (cc := 1) (l := kL) (wl := kW) (hb.trans (hbZ.mono hb.size)) hops (hx.below hbZ) n0 (by omega) (m.below hbZ) (wf_new (by omega) (by omega)) (fun i hi => ?_) (by omega) (by omega) (mc_cell hnC 0) (mc_cell hnC 1) (hri.below hbC) rfl rfl (by omega) (by omega) (by omega) (by omega) (by omega) k_ok k_enc).mono ?_
  · rcases hi with rfl | ⟨r, hr, h⟩
    · omega
    · cases h
  · rintro e w' ⟨rfl, h1, h2, h3, h4⟩
    refine ⟨rfl, ⟨_, h1, ?_, mup_same .., ?_, ?_, ?_⟩, h2, h3, h4⟩
    · rw [mup_other (by omega), mup_other (by omega), mup_other (by omega)]; exact n0
    · rw [mup_other (by omega), mup_other (by omega), mup_other (by omega)]; exact n5
    · rw [mup_other (by omega), mup_other (by omega), mup_other (by omega)]; exact n6
    · rw [mup_other (by omega), mup_other (by omega), mup_other (by omega)]; exact n7
set_option maxRecDepth 100000 in
set_option maxHeartbeats 16000000 in
theorem mknown_any {w : World} (hops : Ops w) : Calls Tryz.prog 7 #[] w fun e w' => e = .returned (.bool true) ∧ Below w.heap.size w w' := by
  have HNW := Lib.hid (new_mc 64 (by decide) (by decide) 16 (by decide) (by decide) w)
  have HO := Lib.hid hops
  have HRI := Lib.hid (fun Y => show Calls Tryz.prog 21 #[.int .i64 (-35)] Y (fun e w' => e = .returned (.int .u64 18446744073709551547) ∧ Y = w') from (refint_any (-35) Y (by omega) (by omega)).mono fun e w' ⟨h1, h2⟩ => ⟨by rw [h1]; rfl, h2⟩)
  clear hops
  go_enter Tryz.func7, Tryz.ntmps7
  go_wp2_with fail
  refine HNW.out.mono ?_
  rintro e w1 ⟨rfl, hx1, hm1, hb1⟩
  have hpn : ((some (⟨w.heap.size + 1, 0, none⟩ : Addr)) == none) = false := rfl
  have hs1 := hx1.lt
  have HW1 := Lib.hid (And.intro hx1 (And.intro hm1 hb1))
  clear hx1 hm1 hb1
  go_wp2_with fail
  refine (load_k HO.out HW1.out.1 HW1.out.2.1 HW1.out.2.2).mono ?_
  rintro e w2 ⟨rfl, ⟨F2, hx2, f0, f43, f45, f46, f47⟩, ⟨R2, hm2, hO2⟩, hz2, hb2⟩
  have HRUN := Lib.hid (run_k hb2 HO.out hx2 f0 f43 f45 f46 f47 (by omega) hm2 hz2 hO2)
  clear hx2 f0 f43 f45 f46 f47 hm2 hO2 hz2 hb2 HW1
  go_wp2_with fail
  refine HRUN.out.mono ?_
  rintro e w3 ⟨rfl, ⟨F3, hx3, f0, f44⟩, hb3⟩
  have hbR := mcb_one w3 (.cells #[.int .i64 1, .int .i64 4] 35)
  have HV := Lib.hid (value_mc (hx3.below hbR) f0 f44)
  have HB := Lib.hid (hb3.trans (hbR.mono hb3.size))
  clear hb3 hx3 f0 f44 hbR
  go_wp2_with fail
  refine HV.out.mono ?_
  rintro e w' ⟨rfl, hw'⟩
  subst w'
  go_wp2_with (go_at_call 21; refine (HRI.out _).mono ?_; rintro e w' ⟨rfl, hw'⟩; subst w')
  go_ret
  exact ⟨rfl, HB.out⟩
end Go.Proofs.YtpoblealgooamaaGreatDoor
