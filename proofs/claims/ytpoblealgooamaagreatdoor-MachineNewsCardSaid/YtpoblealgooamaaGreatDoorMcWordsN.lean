/- A new machine's words: no word comes; nothing needs room. Conditions: the machine's cells, its memory. -/
import Derived.Test.YtpoblealgooamaaGreatDoorMcRootsN
import Derived.Test.YtpoblealgooamaaGreatDoorMcLoad
import Derived.Test.YtpoblealgooamaaGreatDoorMcRun
import Derived.Test.YtpoblealgooamaaGreatDoorGcOne
namespace Go.Proofs.YtpoblealgooamaaGreatDoor
open Go Go.RowKit Go.Shelf Go.Proofs.YtpoblealgooamaaGreatDoor.IsaL
attribute [local go_sem] Oper.semAt_some
theorem roots_mc (g : Nat) (w : World) : Calls Tryz.prog 36 #[.pointer (some ⟨g, 0, none⟩)] w fun e w' => e = .returned (.func (.func 70) #[] #[.pointer (some ⟨w.heap.size, 0, none⟩)]) ∧ w' = w.alloc (.cells #[.pointer (some ⟨g, 0, none⟩)] 22) := by
  go_enter Tryz.func36, Tryz.ntmps36
  go_wp2_with fail
  go_ret
  exact ⟨rfl, rfl⟩
theorem roots_stops {w : World} {g Bs : Nat} {F : Nat → Value} (hx : Bx w g F) (hm : MNew F) (hb : Boxed w Bs 22 (.pointer (some ⟨g, 0, none⟩))) :
    SeqStopsK Fence.wide (3 - 1) Tryz.prog 70 #[.pointer (some ⟨Bs, 0, none⟩)] (fun _ : Nat => #[Value.pointer none]) (fun _ _ => True) (fun ys => ys = []) (fun _ => False) 0 w := fun l J Jx W1 hW hJ _ _ h0 =>
  (callsIn_wide.2 (roots1_new (hx.below hW) hm ((hW.block Bs hb.lt).trans hb) _)).mono fun e W' ⟨hv, k, hw⟩ => ⟨hv, .inl ⟨[], rfl, by
    subst hw
    exact hJ [] W1 (W1.drewN k) none h0 ⟨rfl, rfl, rfl, Nat.le_refl _, fun _ _ _ => rfl⟩ (fun r hr => by cases hr)⟩⟩
set_option maxRecDepth 100000 in
set_option maxHeartbeats 8000000 in
theorem words_new {w : World} {g : Nat} {F : Nat → Value} (hx : Bx w g F) (hm : MNew F) :
    Calls Tryz.prog 24 #[.pointer (some ⟨g, 0, none⟩)] w fun e w' => e = .returned (.slice none 0 0) ∧ Below w.heap.size w w' := by
  have HX := Lib.hid (And.intro hx hm)
  clear hx hm
  refine (callsIn_wide (n := 3)).1 ?_
  refine callsIn_of_wp_marks Tryz.func24 rfl trivial ?_ rfl
  simp only [Tryz.ntmps24, List.size_toArray, List.length_cons, List.length_nil, Nat.reduceAdd, Nat.reduceSub, Array.replicate_succ, Array.replicate_zero, List.push_toArray, List.append_toArray, List.nil_append, List.cons_append]
  gi_wp2_with fail
  refine ⟨trivial, ?_⟩
  refine (callsIn_wide.2 (roots_mc g _)).mono ?_
  rintro e w2 ⟨rfl, hw2⟩
  obtain ⟨w1, hw1⟩ : ∃ w1, w.alloc (.cells #[.slice none 0 0] 52) = w1 := ⟨_, rfl⟩
  have bL : Boxed w1 w.heap.size 52 (.slice none 0 0) := by rw [← hw1]; exact Boxed.new w _ _
  have hb1 : Below w.heap.size w w1 := by rw [← hw1]; exact (Below.refl _ w).alloc (Nat.le_refl _) _
  have hs1 : w1.heap.size = w.heap.size + 1 := by rw [← hw1]; simp
  rw [hw1] at hw2 ⊢
  have bM : Boxed w2 w1.heap.size 22 (.pointer (some ⟨g, 0, none⟩)) := by rw [hw2]; exact Boxed.new w1 _ _
  have bL2 : Boxed w2 w.heap.size 52 (.slice none 0 0) := by rw [hw2]; exact bL.alloc _
  have hb2 : Below w.heap.size w w2 := by rw [hw2]; exact hb1.alloc hb1.size _
  have hs2 : w2.heap.size = w.heap.size + 2 := by rw [hw2]; simp; omega
  have HB2 := Lib.hid hb2
  have HS2 := Lib.hid hs2
  rw [hs1] at bM
  have hseq := roots_stops (HX.out.1.below hb2) HX.out.2 bM
  clear hw1 hb1 bL hb2 hw2
  gi_wp2_with fail
  refine wpIn_rangeFunc_ownG rfl (by omega) (gf := 70) (lb := #[.pointer (some ⟨w.heap.size + 1, 0, none⟩)]) rfl trivial (enters_of Tryz.func70 (by kernel_rfl) rfl)
    hseq (fun _ _ => trivial) (fun _ _ _ _ _ _ _ _ => trivial) (Below.refl _ _) (fun _ => rfl)
    (fun _ W' => Boxed W' w.heap.size 52 (.slice none 0 0) ∧ Below w.heap.size w W')
    (fun _ _ _ => False)
    (OwnFrom.and (Own.from (boxed_own w.heap.size 52 (fun (_ : List Nat) => .slice none 0 0)) _) (ownFrom_below (Nat.le_refl _) (by omega)))
    (fun _ _ _ _ _ hs _ _ => hs)
    ⟨bL2, HB2.out⟩
    ?a1 ?assign ?body ?done ?stop
  case assign =>
    intro l x W' K hK
    gi_wp2
    exact hK
  case body =>
    rintro l pre x W' _ hlt
    exact absurd hlt (Nat.not_lt_zero _)
  case done =>
    rintro D ys W' hD rfl ⟨hI, hB⟩ hK
    have hci := hI.cell
    have HB := Lib.hid hB
    have HKD := Lib.hid hK
    clear hI hB hK
    gi_wp2_with fail
    refine ⟨by simp, .inl ⟨_, _, rfl, run_takeDeferred HKD.out, ?_⟩⟩
    refine ⟨_, results_tmp rfl _ _ _, rfl, HB.out.trans (belowK_b (w := w) (Nat.le_refl _) W' D _ _ (by have := HS2.out; omega) HKD.out rfl rfl)⟩
  case stop =>
    rintro D c pre W' _ _ h _
    exact h.elim
/-- what a new machine holds needs no word -/
theorem wordsV_none (w : World) : WordsV w none 0 [] := ⟨rfl, by decide, fun n hn => (by cases hn), fun j n hj => (by cases hj)⟩
set_option maxRecDepth 100000 in
set_option maxHeartbeats 8000000 in
theorem mlive_new {w : World} {g b W : Nat} {F : Nat → Value} {R : Nat → Value} (hx : Bx w g F) (hm : MNew F) (h0 : F 0 = .pointer (some ⟨b, 0, none⟩)) (m : Mem w b W 0 R [] []) (z : WF W 0 [] []) :
    Calls Tryz.prog 8 #[.pointer (some ⟨g, 0, none⟩)] w fun e w' => e = .returned (.int .i64 0) ∧ Below w.heap.size w w' := by
  have c0 := hx.cell (j := 0) (by omega)
  rw [h0] at c0
  have HN := Lib.hid (none_mc hx h0)
  have HW := Lib.hid ((words_new (w := w.drew) (show Bx w.drew g F from hx) hm).mono (fun e w' h => And.intro h.1 (show w'.cell? ⟨g, 0, none⟩ = some (.pointer (some ⟨b, 0, none⟩)) ∧ Below w.heap.size w w' from
    have hb : Below w.heap.size w w' := ((Below.refl _ w).drew).trans h.2
    ⟨mcb_cell hb c0, hb⟩)))
  have HL := Lib.hid (fun (W1 : World) (hb : Below w.heap.size w W1) => (live_any (m.below hb) z (c := 0) (wordsV_none W1)).mono (fun e w' h => And.intro (show e = .returned (.tuple #[.int .i64 0, .int .i64 0]) from h.1) (show w'.cell? ⟨g, 0, none⟩ = some (.pointer (some ⟨b, 0, none⟩)) ∧ Below w.heap.size w w' from ⟨mcb_cell (hb.trans (h.2.mono hb.size)) c0, hb.trans (h.2.mono hb.size)⟩)))
  clear hx hm h0 m z
  go_enter Tryz.func8, Tryz.ntmps8
  go_wp2_with fail
  refine HN.out.mono ?_
  rintro e w1 ⟨rfl, hw1⟩
  subst w1
  go_wp2_with fail
  go_region_held3 (fun Y => Y.cell? ⟨g, 0, none⟩ = some (.pointer (some ⟨b, 0, none⟩))) (first | (with_reducible assumption) | exact c0 | exact hc2 | exact hc3) (first | (go_at_call 24; (with_reducible refine HW.out.mono ?_); rintro e w2 ⟨rfl, hc2, hb2⟩; have HB2 := Lib.hid hb2; clear hb2) | (go_at_call 23; (with_reducible refine (HL.out _ HB2.out).mono ?_); rintro e w3 ⟨rfl, hc3, hb3⟩; have HB3 := Lib.hid hb3; clear hb3))
  all_goals
    go_wp2_with fail
    go_ret
    exact ⟨rfl, HB3.out⟩
end Go.Proofs.YtpoblealgooamaaGreatDoor
