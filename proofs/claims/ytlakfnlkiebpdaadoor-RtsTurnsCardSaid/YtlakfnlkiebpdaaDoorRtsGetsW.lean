/- The walk of the statement RtsGets: it returns true. Condition: the arguments read as objects and integers. -/
import Derived.Test.YtlakfnlkiebpdaaDoorRtsRT
import Derived.Test.YtlakfnlkiebpdaaDoorGcFour
namespace Go.Proofs.YtlakfnlkiebpdaaDoor
open Go Go.RowKit
theorem heap_short {rs : List O4} : ∀ o ∈ heapObs (heapO rs), o.ws.length ≤ 12 := by
  intro o ho
  unfold heapObs at ho
  obtain ⟨j, hj, rfl⟩ := List.getElem_of_mem ho
  rw [List.getElem_mapIdx]
  simp only [List.length_map, List.length_range]
  exact heapO_short rs _ (List.getElem_mem _)
/-- the document's memory in a box of its own -/
theorem RW.boxed {w wr w1 : World} {b W rb : Nat} {os : List Ob} {v : Value} {P : List (RO × Value)} (x : RW w b W os wr v P) (hb : Below wr.heap.size wr w1) (hblk : w1.heap[rb]? = some (.cells #[.int .i64 W, .int .i64 0, v, .slice none 0 0] 30 (0, 0))) (hrb : wr.heap.size ≤ rb) :
    RW w rb W os w1 v P := by
  refine ⟨⟨hblk, x.r.l1.below hb, RL.nil _, fun h => ?_, fun h => ownL_none h, fun i _ h => ownL_none h⟩, x.e, x.z, fun i hi => ?_, x.fr.trans (hb.mono x.fr.size)⟩
  · have := x.r.l1.lt rb h
    omega
  · rcases hi with q | q | q
    · have := x.fr.size; omega
    · exact x.ge i (.inr (.inl q))
    · exact (ownL_none q).elim
set_option maxRecDepth 100000 in
set_option maxHeartbeats 16000000 in
theorem rtsGets_walk {w : World} {a : Option Addr} {N c : Nat} {rs : List O4} (hv : ArgV w a N rs) (root n : Int) (hr0 : -9223372036854775808 ≤ root) (hr1 : root ≤ 9223372036854775807) (hn0 : 0 ≤ n) (hn1 : n ≤ 18446744073709551615) :
    Calls Tryd.prog 5 #[.slice a N c, .int .i64 root, .int .u64 n] w fun e w' => e = .returned (.bool true) ∧ Below w.heap.size w w' := by
  have HK := Lib.hid rknown_any
  have hrng := hv.rng
  have HH := Lib.hid (heap_any (c := c) hv)
  have hWb := heapW_bd hrng
  have HRN := Lib.hid (heapR hrng)
  have HSH := Lib.hid (heap_short (rs := rs))
  obtain ⟨W, hW⟩ : ∃ W, heapW rs = W := ⟨_, rfl⟩
  obtain ⟨os, hos⟩ : ∃ os, heapO rs = os := ⟨_, rfl⟩
  rw [hW, hos] at HH HRN
  rw [hW] at hWb
  rw [hos] at HSH
  obtain ⟨N1, hN1⟩ : ∃ N1, os.length = N1 := ⟨_, rfl⟩
  rw [hN1] at HH
  obtain ⟨n, rfl⟩ : ∃ m : Nat, n = m := ⟨n.toNat, by omega⟩
  have hrb := rootW_bd os root
  have HRT := Lib.hid (fun (W1 : World) (a1 : Option Addr) (c1 : Nat) (h : ObsV W1 a1 N1 os) => root_any (c := c1) h root hr0 hr1)
  obtain ⟨q, hq⟩ : ∃ q : Nat, rootW os root = q := ⟨(rootW os root).toNat, by omega⟩
  rw [hq] at HRT hrb
  have hq64 : q < 18446744073709551616 := by omega
  have hn64 : n < 18446744073709551616 := by omega
  obtain ⟨now, hnow⟩ : ∃ now, heapObs os = now := ⟨_, rfl⟩
  rw [hnow] at HSH
  obtain ⟨S1, hS1⟩ : ∃ S, (getX now 0 W q).1 = S := ⟨_, rfl⟩
  obtain ⟨E1, hE1⟩ : ∃ S, (getX now 0 W q).2 = S := ⟨_, rfl⟩
  obtain ⟨S2, hS2⟩ : ∃ S, (getX now 0 W n).1 = S := ⟨_, rfl⟩
  obtain ⟨E2, hE2⟩ : ∃ S, (getX now 0 W n).2 = S := ⟨_, rfl⟩
  have HEQ := Lib.hid (show heapObs os = now ∧ ((getX now 0 W q).1 = S1 ∧ (getX now 0 W q).2 = E1) ∧ (getX now 0 W n).1 = S2 ∧ (getX now 0 W n).2 = E2 from ⟨hnow, ⟨hS1, hE1⟩, hS2, hE2⟩)
  clear hv hrng hW hos hN1 hq hnow hS1 hE1 hS2 hE2 hrb hr0 hr1 hn0 hn1
  go_enter Tryd.func5, Tryd.ntmps5
  go_wp2_with fail
  refine (HH.out).mono ?_
  rintro e w1 ⟨a1, c1, rfl, ho1, hb1⟩
  have HB1 := Lib.hid hb1
  have HO1 := Lib.hid ho1
  have HMD := Lib.hid (made_any (c := c1) ho1 HRN.out)
  clear hb1 ho1 HH
  go_wp2_with fail
  refine (HMD.out).mono ?_
  rintro e w2 ⟨rfl, R2, m2⟩
  have hpn : ((some (⟨w1.heap.size, 0, none⟩ : Addr)) == none) = false := rfl
  rw [HEQ.out.1] at m2
  have HM2 := Lib.hid m2
  have ho2 := HO1.out.below m2.fr
  have HO2 := Lib.hid ho2
  have HMR := Lib.hid (rmade_any (c := c1) ho2 HRN.out)
  clear m2 ho2 HMD
  go_wp2_with fail
  refine (HMR.out).mono ?_
  rintro e w3 ⟨b3, v3, P3, rfl, x3⟩
  rw [HEQ.out.1] at x3
  have hz3 : ∃ va vL vc, v3 = .slice va vL vc := by obtain ⟨va, vc, h, _⟩ := own_shape5 x3.r.l1.row; exact ⟨va, _, vc, h⟩
  obtain ⟨va, vL, vc, rfl⟩ := hz3
  have hbx := below_one w3 (.cells #[.int .i64 W, .int .i64 0, .slice va vL vc, .slice none 0 0] 30)
  have hX4 := x3.boxed hbx (heap_alloc_new w3 _) (Nat.le_refl _)
  have hM4 : Mem _ w1.heap.size W 0 R2 now [] := HM2.out.m.below (x3.fr.trans (hbx.mono x3.fr.size))
  have hO4 : ObsV _ a1 N1 os := HO2.out.below (x3.fr.trans (hbx.mono x3.fr.size))
  have hB4 : Below w.heap.size w _ := (HB1.out.trans (HM2.out.fr.mono HB1.out.size)).trans ((x3.fr.trans (hbx.mono x3.fr.size)).mono (HB1.out.trans (HM2.out.fr.mono HB1.out.size)).size)
  have HZ := Lib.hid HM2.out.z
  obtain ⟨w4, hw4⟩ : ∃ w4, w3.alloc (.cells #[.int .i64 W, .int .i64 0, .slice va vL vc, .slice none 0 0] 30) = w4 := ⟨_, rfl⟩
  rw [hw4] at hX4 hM4 hO4 hB4
  have HX4 := Lib.hid hX4
  have HM4 := Lib.hid hM4
  have HO4 := Lib.hid hO4
  have HB4 := Lib.hid hB4
  have HW4 := Lib.hid hw4
  clear x3 hbx hX4 hM4 hO4 hB4 hw4 HMR
  go_wp2_with fail
  rw [HW4.out]
  refine (HRT.out w4 a1 c1 HO4.out).mono ?_
  rintro e w5 ⟨rfl, hw5⟩
  subst w5
  go_wp2_with fail
  have hg1 := gettext_any HM4.out HZ.out q hq64
  rw [HEQ.out.2.1.1, HEQ.out.2.1.2] at hg1
  have HG1 := Lib.hid hg1
  clear hg1
  refine HG1.out.mono ?_
  rintro e w5 ⟨rfl, hb5⟩
  have HB5 := Lib.hid hb5
  have HO5 := Lib.hid (HO4.out.below hb5)
  have hg2 := refgettext_any (HX4.out.below hb5) (fun o ho => Nat.le_trans (HSH.out o ho) (by decide)) q hq64
  rw [HEQ.out.2.1.1, HEQ.out.2.1.2] at hg2
  have HG2 := Lib.hid hg2
  clear hb5 hg2
  go_wp2_with fail
  refine (HRT.out w5 a1 c1 HO5.out).mono ?_
  rintro e w6 ⟨rfl, hw6⟩
  subst w6
  go_wp2_with fail
  refine (HG2.out).mono ?_
  rintro e w6 ⟨rfl, hb6⟩
  have HB6 := Lib.hid (HB5.out.trans (hb6.mono HB5.out.size))
  have hg3 := gettext_any (HM4.out.below HB6.out) HZ.out n hn64
  rw [HEQ.out.2.2.1, HEQ.out.2.2.2] at hg3
  have HG3 := Lib.hid hg3
  clear hb6 hg3
  go_wp2_with fail
  refine (HG3.out).mono ?_
  rintro e w7 ⟨rfl, hb7⟩
  have HB7 := Lib.hid (HB6.out.trans (hb7.mono HB6.out.size))
  have hg4 := refgettext_any (HX4.out.below HB7.out) (fun o ho => Nat.le_trans (HSH.out o ho) (by decide)) n hn64
  rw [HEQ.out.2.2.1, HEQ.out.2.2.2] at hg4
  have HG4 := Lib.hid hg4
  clear hb7 hg4
  go_wp2_with fail
  refine (HG4.out).mono ?_
  rintro e w8 ⟨rfl, hb8⟩
  have HB8 := Lib.hid (HB4.out.trans ((HB7.out.trans (hb8.mono HB7.out.size)).mono HB4.out.size))
  clear hb8
  go_wp2_with fail
  refine (HK.out _).mono ?_
  rintro e w9 ⟨rfl, hb9⟩
  have HB9 := Lib.hid (HB8.out.trans (hb9.mono HB8.out.size))
  clear hb9
  go_wp2_with fail
  go_ret
  exact ⟨rfl, HB9.out⟩
end Go.Proofs.YtlakfnlkiebpdaaDoor
