/- The walk of the statement GcNil: it returns true. Conditions: none. -/
import Derived.Test.YtjdhjehnofediaaGcKn
namespace Go.Proofs.Ytjdhjehnofediaa
open Go Go.RowKit Go.Shelf
attribute [local go_sem] Oper.semAt_some
set_option maxRecDepth 100000 in
set_option maxHeartbeats 8000000 in
theorem gcNil_walk (w : World) : Calls Try.prog 13 #[] w fun e w' => e = .returned (.bool true) ∧ Below w.heap.size w w' := by
  have hnf : ∀ (p : Nat) (W : World), (binOp BinOp.eql 48 (Value.func (Fn.func 80) #[] #[Value.pointer (some ⟨p, 0, none⟩)]) Value.nilFunc).run Try.prog W = .ok (.bool false) W := fun _ _ => by kernel_rfl
  refine (callsIn_wide (n := 3)).1 ?_
  refine callsIn_of_wp_marks Try.func13 rfl trivial ?_ rfl
  simp only [Try.ntmps13, List.size_toArray, List.length_nil, Nat.reduceSub, Array.replicate_succ, Array.replicate_zero, List.push_toArray, List.append_toArray, List.nil_append, List.cons_append]
  have bO0 := Boxed.new w 4 (.bool false)
  have HB0 := Lib.hid (show Below w.heap.size w ((w.alloc (.cells #[.bool false] 4)).alloc (.cells #[.int .u64 1] 56)) from ((Below.refl _ w).alloc (Nat.le_refl _) _).alloc (by simp) _)
  have HO0 := Lib.hid (bO0.alloc (.cells #[.int .u64 1] 56))
  clear bO0
  gi_wp2_with fail
  refine ⟨trivial, ?_⟩
  refine (callsIn_wide.2 (collect_nil _ _)).mono ?_
  rintro e w1 ⟨rfl, hb1⟩
  have HB1 := Lib.hid (HB0.out.trans (hb1.mono HB0.out.size))
  have HO1 := Lib.hid (show Boxed w1 w.heap.size 4 (.bool false) from (hb1.block _ (by simp; omega)).trans HO0.out)
  clear hb1
  gi_wp2_with fail
  refine ⟨trivial, ?_⟩
  refine (callsIn_wide.2 (live_nil _ _)).mono ?_
  rintro e w2 ⟨rfl, hb2⟩
  have HB2 := Lib.hid (HB1.out.trans (hb2.mono HB1.out.size))
  have HO2 := Lib.hid (show Boxed w2 w.heap.size 4 (.bool false) from (hb2.block _ HO1.out.lt).trans HO1.out)
  clear hb2
  gi_wp2_with fail
  refine ⟨trivial, ?_⟩
  refine (callsIn_wide.2 (reach_nil _ _)).mono ?_
  rintro e w3 ⟨rfl, hw3⟩
  have hB3 : Below w.heap.size w w3 := by rw [hw3]; exact (HB2.out.alloc HB2.out.size _).alloc (by have := HB2.out.size; simp; omega) _
  have hO3 : Boxed w3 w.heap.size 4 (.bool false) := by rw [hw3]; exact (HO2.out.alloc _).alloc _
  obtain ⟨Bs, hBs⟩ : ∃ Bs, (w2.alloc (.cells #[.int .u64 1] 56)).heap.size = Bs := ⟨_, rfl⟩
  have bN : Boxed w3 Bs 23 (.slice none 0 0) := by rw [hw3, ← hBs]; exact Boxed.new _ _ _
  have hBw : w.heap.size < w3.heap.size := hO3.lt
  rw [hBs]
  have HB3 := Lib.hid hB3
  have HO3 := Lib.hid hO3
  clear hw3 hBs hB3 hO3
  gi_wp2_with fail
  refine wpIn_rangeFunc_ownG rfl (by omega) (gf := 80) (lb := #[.pointer (some ⟨Bs, 0, none⟩)]) rfl trivial (enters_of Try.func80 (by kernel_rfl) rfl)
    (each_stops (3 - 1) (by omega) Bs (.slice none 0 0) [] _ bN (World.ownsRow_nil _ _ _ _)) keepL_t keepL_b (Below.refl _ _) (fun _ => rfl)
    (fun _ W' => Boxed W' w.heap.size 4 (.bool false) ∧ Below w.heap.size w W')
    (fun _ _ _ => False)
    (OwnFrom.and (Own.from (boxed_own w.heap.size 4 (fun (_ : List Nat) => .bool false)) _) (ownFrom_below (Nat.le_refl _) (by omega)))
    (fun _ _ _ _ _ hs _ _ => hs)
    ⟨HO3.out, HB3.out⟩
    ?a1 ?assign ?body ?done ?stop
  case assign =>
    intro l x W' K hK
    gi_wp2
    exact hK
  case body =>
    intro l pre x W' _ hlt
    exact absurd hlt (Nat.not_lt_zero _)
  case done =>
    rintro D ys W' hD rfl ⟨hI, hB⟩ hK
    have hci := hI.cell
    have hfi := hI.frozen
    have HB := Lib.hid hB
    have HI := Lib.hid hI
    have HKD := Lib.hid hK
    clear hI hB hK
    gi_wp2_with (refine ⟨trivial, ?_⟩; gi_at_call 26; refine (callsIn_wide.2 (check_nil _ _)).mono ?_; rintro e w' ⟨rfl, hw⟩; subst w')
    refine ⟨trivial, ?_⟩
    refine (callsIn_wide.2 (known_any _)).mono ?_
    rintro e W5 ⟨rfl, hb5⟩
    have hI5 : Boxed W5 w.heap.size 4 (.bool false) := (hb5.block _ HI.out.lt).trans HI.out
    have hD5 : W5.heap[D]? = some (.deferred (some [])) := (hb5.block D (Array.getElem?_eq_some_iff.1 HKD.out).1).trans HKD.out
    have hci5 := hI5.cell
    have hfi5 := hI5.frozen
    have HI5 := Lib.hid hI5
    have HD5 := Lib.hid hD5
    have HB5 := Lib.hid (HB.out.trans (hb5.mono HB.out.size))
    clear hI5 hD5 hb5 hci hfi
    gi_wp2_with fail
    have hDne : D ≠ w.heap.size := by omega
    have hset := HI5.out.set (.bool true)
    have hd6 : (W5.setCell ⟨w.heap.size, 0, none⟩ (.bool true)).heap[D]? = some (.deferred (some [])) := (Below.heap_setCell W5 _ _ D hDne).trans HD5.out
    refine ⟨by simp, .inl ⟨_, _, rfl, run_takeDeferred hd6, ?_⟩⟩
    have hc7 := cell_kept hset.cell (grownBy_putObj' _ D (.deferred none)) (fun r e => by cases e; exact ⟨_, hd6, rfl⟩)
    refine ⟨.bool true, ?_, rfl, (HB5.out.setCell (p := ⟨w.heap.size, 0, none⟩) (Nat.le_refl _) _).trans (belowK_b (w := w) (Nat.le_refl _) _ D _ _ (by omega) hd6 rfl rfl)⟩
    simp [results, Try.f13, go_sem, hc7]
  case stop =>
    rintro D c pre W _ _ h _
    exact h.elim
end Go.Proofs.Ytjdhjehnofediaa
