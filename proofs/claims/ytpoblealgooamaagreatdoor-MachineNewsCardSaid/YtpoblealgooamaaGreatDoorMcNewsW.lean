/- MachineNews's walk: a new machine has what the document's has, and runs nothing. Conditions: the table of operations is as laid. -/
import Derived.Test.YtpoblealgooamaaGreatDoorMcGraphN
import Derived.Test.YtpoblealgooamaaGreatDoorMcKnown
import Derived.Test.YtpoblealgooamaaGreatDoorPackAll
namespace Go.Proofs.YtpoblealgooamaaGreatDoor
open Go Go.RowKit Go.Proofs.YtpoblealgooamaaGreatDoor.IsaL
theorem mcN_gl (b : Nat) (S : Int) (k : Nat) (hk : k < 1024) : mcN b S (18 + k) = .int .u64 1 := by
  unfold mcN mcE
  rw [mup_other (by omega), mup_other (by omega), mup_other (by omega)]
  unfold mcE1 mcG1
  rw [if_neg (by omega), if_pos (by omega)]
theorem global_one {w : World} {g b : Nat} {F : Nat → Value} (hx : Bx w g F) (h0 : F 0 = .pointer (some ⟨b, 0, none⟩)) (hgl : ∀ k, k < 1024 → F (18 + k) = .int .u64 1) (n : Int) : Calls Tryz.prog 10 #[.pointer (some ⟨g, 0, none⟩), .int .i64 n] w fun e w' => e = .returned (.int .u64 1) ∧ w' = w := by
  by_cases h : n < 0 ∨ 1024 ≤ n
  · exact global_no hx h0 h
  · obtain ⟨k, rfl⟩ : ∃ k : Nat, n = k := ⟨n.toNat, by omega⟩
    exact global_at hx h0 (by omega) (hgl k (by omega))
set_option maxRecDepth 100000 in
set_option maxHeartbeats 8000000 in
theorem run_int {w : World} {g b : Nat} {F : Nat → Value} (hx : Bx w g F) (h0 : F 0 = .pointer (some ⟨b, 0, none⟩)) (hc : F 1043 = .int .u64 1) (x y z : Int) : Calls Tryz.prog 11 #[.pointer (some ⟨g, 0, none⟩), .int .i64 x, .int .i64 y, .int .i64 z] w fun e w' => e = .returned (.agg #[.int .i64 0, .int .i64 0]) ∧ Below w.heap.size w w' := by
  have HN := Lib.hid (fun (Y : World) (hb : Below w.heap.size w Y) => none_mc (hx.below hb) h0)
  have c3 := hx.cell (j := 1043) (by omega)
  rw [hc] at c3
  have k3 := mcb_cell (mcb_one w (.cells #[.int .i64 0, .int .i64 0] 35)) c3
  have HI := Lib.hid (fun Y => isptr_odd 1 (by decide) (by decide) Y)
  have hpn : ((some (⟨g, 0, none⟩ : Addr)) == none) = false := rfl
  clear hx h0 hc c3
  go_enter Tryz.func11, Tryz.ntmps11
  go_wp2_with fail
  go_step3
  go_wp2_with fail
  refine (HN.out _ (mcb_one w _)).mono ?_
  rintro e w' ⟨rfl, hw'⟩
  subst w'
  go_wp2_with fail
  refine (HI.out _).mono ?_
  rintro e w' ⟨rfl, hw'⟩
  subst w'
  go_wp2_with fail
  rw [Exit.noGoto_ret]
  have hb : (w.alloc (.cells #[.int .i64 0, .int .i64 0] 35)).heap[w.heap.size]? = some (.cells #[.int .i64 0, .int .i64 0] 35) := heap_alloc_new w _
  have f0 : (w.alloc (.cells #[.int .i64 0, .int .i64 0] 35)).cell? ⟨w.heap.size, 0, none⟩ = some (.int .i64 0) := mc_cell hb 0
  have f1 : (w.alloc (.cells #[.int .i64 0, .int .i64 0] 35)).cell? ⟨w.heap.size, 1, none⟩ = some (.int .i64 0) := mc_cell hb 1
  refine bodyPost_ret (v := .agg #[.int .i64 0, .int .i64 0]) (by simp [results, Tryz.results11, go_sem, f0, f1]) rfl ?_
  exact ⟨rfl, (Below.refl _ w).alloc (Nat.le_refl _) _⟩
theorem wordsO {w : World} {B n : Nat} {v : Value} {xs : List Nat} (h : w.ownsRow B 31 1 v n (u64s xs)) (hn : xs.length = n) : NumL.Words w.heap.size w v xs := by
  subst hn
  rcases h.2 with ⟨rfl, h0⟩ | ⟨g, cap, cur, rfl, hbg, hg, hc, _⟩
  · exact .inl ⟨rfl, List.length_eq_zero_iff.1 h0⟩
  · refine .inr ⟨g, 0, cap, rfl, (Array.getElem?_eq_some_iff.1 hg).1, hc, fun j hj => ?_⟩
    rw [Nat.zero_add, h.cellAt j (by omega)]
    unfold u64s
    simp [List.getD, hj]
theorem same_onR {w : World} {B C : Nat} {v1 v2 : Value} (h1 : w.ownsRow B 31 1 v1 (1025 + 1025) (u64s (onR 1025))) (h2 : w.ownsRow C 31 1 v2 (1025 + 1025) (u64s (onR 1025))) :
    Calls Tryz.prog 33 #[v1, v2] w fun e w' => e = .returned (.bool true) ∧ Below w.heap.size w w' := by
  have hl : (onR 1025).length = 1025 + 1025 := onR_len 1025
  have key : ∀ (xs : List Nat), xs.length = 1025 + 1025 → w.ownsRow B 31 1 v1 (1025 + 1025) (u64s xs) → w.ownsRow C 31 1 v2 (1025 + 1025) (u64s xs) → Calls Tryz.prog 33 #[v1, v2] w fun e w' => e = .returned (.bool true) ∧ Below w.heap.size w w' := fun xs hx a b =>
    (NumL.same_any v1 v2 xs xs (by omega) w (wordsO a hx) (wordsO b hx)).mono fun e w' ⟨h1, h2⟩ => ⟨by rw [h1, decide_eq_true rfl], h2⟩
  exact key _ hl h1 h2
set_option maxRecDepth 100000 in
set_option maxHeartbeats 8000000 in
theorem same_new {w : World} {g b W gl rb : Nat} {F : Nat → Value} {R : Nat → Value} {V S : Int} (hx : Bx w g F) (h0 : F 0 = .pointer (some ⟨b, 0, none⟩)) (hm : MNew F) (hgl : ∀ k, k < 1024 → F (18 + k) = .int .u64 1) (m : Mem w b W 0 R [] []) (z : WF W 0 [] []) (hr : RefNew w V S gl rb) :
    Calls Tryz.prog 12 #[.pointer (some ⟨g, 0, none⟩), .pointer (some ⟨rb, 0, none⟩)] w fun e w' => e = .returned (.bool true) ∧ Below w.heap.size w w' := by
  have HG := Lib.hid (lawgraph_new hx h0 hm hgl m z)
  have HL := Lib.hid (fun (Y : World) (hb : Below w.heap.size w Y) => mlive_new (hx.below hb) hm h0 (m.below hb) z)
  have HRL := Lib.hid (fun (Y : World) (hb : Below w.heap.size w Y) => reflive_new (hr.below hb))
  have HRS := Lib.hid (fun (Y : World) (hb : Below w.heap.size w Y) => refstate_new (hr.below hb))
  clear hx h0 hm hgl m z hr
  go_enter Tryz.func12, Tryz.ntmps12
  go_wp2_with fail
  refine (HG.out).mono ?_
  rintro e w1 ⟨⟨v1, rfl, ho1⟩, hb1⟩
  have HB1 := Lib.hid hb1
  have HO1 := Lib.hid ho1
  clear hb1 ho1
  go_wp2_with fail
  refine ((HL.out _ HB1.out)).mono ?_
  rintro e w2 ⟨rfl, hb2⟩
  have HB2 := Lib.hid (HB1.out.trans (hb2.mono HB1.out.size))
  have HO2 := Lib.hid ((Fr.of_below (O := fun _ => False) hb2).own HO1.out (fun _ _ => id))
  clear hb2 HO1
  go_wp2_with fail
  refine ((HRL.out _ HB2.out)).mono ?_
  rintro e w3 ⟨rfl, hb3⟩
  have HB3 := Lib.hid (HB2.out.trans (hb3.mono HB2.out.size))
  have HO3 := Lib.hid ((Fr.of_below (O := fun _ => False) hb3).own HO2.out (fun _ _ => id))
  clear hb3 HO2
  go_wp2_with fail
  refine ((HRS.out _ HB3.out)).mono ?_
  rintro e w4 ⟨⟨v4, rfl, ho4⟩, hb4⟩
  have HB4 := Lib.hid (HB3.out.trans (hb4.mono HB3.out.size))
  have HO4 := Lib.hid ((Fr.of_below (O := fun _ => False) hb4).own HO3.out (fun _ _ => id))
  have HP4 := Lib.hid ho4
  clear hb4 ho4 HO3
  go_wp2_with fail
  refine ((same_onR HO4.out HP4.out)).mono ?_
  rintro e w5 ⟨rfl, hb5⟩
  have HB5 := Lib.hid (HB4.out.trans (hb5.mono HB4.out.size))
  clear hb5
  go_wp2_with fail
  go_ret
  exact ⟨rfl, HB5.out⟩
set_option maxRecDepth 100000 in
set_option maxHeartbeats 16000000 in
theorem machineNews_good {w : World} (hops : Ops w) {W S : Int} (h : sizeOk W S) : Calls Tryz.prog 3 #[.int .i64 W, .int .i64 S] w fun e w' => e = .returned (.bool true) ∧ Below w.heap.size w w' := by
  have HREF := Lib.hid (fun Y => refnew_good h Y)
  unfold sizeOk at h
  obtain ⟨N, rfl⟩ : ∃ N : Nat, W = N := ⟨W.toNat, by omega⟩
  have HNEW := Lib.hid (new_mc N (by omega) (by omega) S (by omega) (by omega) w)
  have HZ := Lib.hid (show WF N 0 [] [] from wf_new (by omega) (by omega))
  have HO := Lib.hid hops
  have h00 := (mcN_at w.heap.size S).1
  have HF0 := Lib.hid h00
  have HFM := Lib.hid (mcN_new w.heap.size S)
  have HFG := Lib.hid (mcN_gl w.heap.size S)
  clear h hops h00
  go_enter Tryz.func3, Tryz.ntmps3
  go_wp2_with fail
  refine (HNEW.out).mono ?_
  rintro e w1 ⟨rfl, hx1, hm1, hb1⟩
  have HX1 := Lib.hid hx1
  have HM1 := Lib.hid hm1
  have HB1 := Lib.hid hb1
  clear hx1 hm1 hb1
  go_wp2_with fail
  refine ((HREF.out _)).mono ?_
  rintro e w2 ⟨rfl, hr2, hb2⟩
  have HX2 := Lib.hid (HX1.out.below hb2)
  have HM2 := Lib.hid (HM1.out.below hb2)
  have HB2 := Lib.hid (HB1.out.trans (hb2.mono HB1.out.size))
  have HR2 := Lib.hid hr2
  clear hb2 hr2 HX1 HM1
  have hpn : ((some (⟨w.heap.size + 1, 0, none⟩ : Addr)) == none) = false := rfl
  obtain ⟨g, hg⟩ : ∃ g, w.heap.size + 1 = g := ⟨_, rfl⟩
  rw [hg] at HX2 hpn ⊢
  clear hg
  go_wp2_with fail
  refine ((mlive_new HX2.out HFM.out HF0.out HM2.out HZ.out)).mono ?_
  rintro e w3 ⟨rfl, hb3⟩
  have HX3 := Lib.hid (HX2.out.below hb3)
  have HM3 := Lib.hid (HM2.out.below hb3)
  have HB3 := Lib.hid (HB2.out.trans (hb3.mono HB2.out.size))
  have HR3 := Lib.hid (HR2.out.below hb3)
  clear hb3 HX2 HM2 HR2
  go_wp2_with fail
  refine ((value_mc HX3.out HF0.out HFM.out.va)).mono ?_
  rintro e w' ⟨rfl, hw'⟩
  subst w'
  go_wp2_with fail
  refine ((global_one HX3.out HF0.out HFG.out 0)).mono ?_
  rintro e w' ⟨rfl, hw'⟩
  subst w'
  go_wp2_with fail
  refine ((global_one HX3.out HF0.out HFG.out 1023)).mono ?_
  rintro e w' ⟨rfl, hw'⟩
  subst w'
  go_wp2_with fail
  refine ((global_one HX3.out HF0.out HFG.out (-1))).mono ?_
  rintro e w' ⟨rfl, hw'⟩
  subst w'
  go_wp2_with fail
  refine ((global_one HX3.out HF0.out HFG.out N)).mono ?_
  rintro e w' ⟨rfl, hw'⟩
  subst w'
  go_wp2_with fail
  refine ((run_int HX3.out HF0.out HFM.out.cd 5 0 0)).mono ?_
  rintro e w4 ⟨rfl, hb4⟩
  have HX4 := Lib.hid (HX3.out.below hb4)
  have HM4 := Lib.hid (HM3.out.below hb4)
  have HB4 := Lib.hid (HB3.out.trans (hb4.mono HB3.out.size))
  have HR4 := Lib.hid (HR3.out.below hb4)
  clear hb4 HX3 HM3 HR3
  go_wp2_with fail
  refine ((same_new HX4.out HF0.out HFM.out HFG.out HM4.out HZ.out HR4.out)).mono ?_
  rintro e w5 ⟨rfl, hb5⟩
  have HB5 := Lib.hid (HB4.out.trans (hb5.mono HB4.out.size))
  clear hb5
  go_wp2_with fail
  refine ((mknown_any (ops_below HO.out (Nat.le_refl _) HB5.out))).mono ?_
  rintro e w6 ⟨rfl, hb6⟩
  have HB6 := Lib.hid (HB5.out.trans (hb6.mono HB5.out.size))
  clear hb6
  go_wp2_with fail
  go_ret
  exact ⟨rfl, HB6.out⟩
theorem machineNews_any {w : World} (hops : Ops w) (W S : Int) : Calls Tryz.prog 3 #[.int .i64 W, .int .i64 S] w fun e w' => e = .returned (.bool true) ∧ Below w.heap.size w w' := by
  by_cases h : sizeOk W S
  · exact machineNews_good hops h
  · exact machineNews_bad hops h
end Go.Proofs.YtpoblealgooamaaGreatDoor
