/- The walk of the statement GcLives: it returns true. Condition: the arguments read as objects and integers. -/
import Derived.Test.YtjdhjehnofediaaGcRefS
namespace Go.Proofs.Ytjdhjehnofediaa
open Go Go.RowKit
set_option maxRecDepth 100000 in
set_option maxHeartbeats 8000000 in
theorem gcLives_walk {w : World} {a : Option Addr} {N c : Nat} {rs : List O4} {v2 : Value} {zs : List Int} (hv : ArgV w a N rs) (hz : IntsV w v2 zs) :
    Calls Try.prog 5 #[.slice a N c, v2] w fun e w' => e = .returned (.bool true) ∧ Below w.heap.size w w' := by
  have hrng := hv.rng
  obtain ⟨a2, N2, c2, rfl, hrv⟩ := roots_of hz
  have hzl := hrv.len
  have HH := Lib.hid (heap_any (c := c) hv)
  have HRV := Lib.hid hrv
  have huh := used_heap hrng
  have hWb := heapW_bd hrng
  have HRN := Lib.hid (heapR hrng)
  obtain ⟨W, hW⟩ : ∃ W, heapW rs = W := ⟨_, rfl⟩
  obtain ⟨os, hos⟩ : ∃ os, heapO rs = os := ⟨_, rfl⟩
  rw [hW, hos] at HH HRN
  rw [hW, hos] at huh
  rw [hW] at hWb
  obtain ⟨N1, hN1⟩ : ∃ N1, os.length = N1 := ⟨_, rfl⟩
  rw [hN1] at HH
  clear hv hz hrv hrng hW hos hN1
  go_enter Try.func5, Try.ntmps5
  go_wp2_with fail
  refine HH.out.mono ?_
  rintro e w1 ⟨a1, c1, rfl, ho1, hb1⟩
  have HO1 := Lib.hid ho1
  have HB1 := Lib.hid hb1
  clear ho1 hb1 HH
  have HMD := Lib.hid (made_any (c := c1) HO1.out HRN.out)
  go_wp2_with fail
  refine HMD.out.mono ?_
  rintro e w2 ⟨rfl, R2, m2⟩
  have hpn : ((some (⟨w1.heap.size, 0, none⟩ : Addr)) == none) = false := rfl
  obtain ⟨now, hnow⟩ : ∃ now, heapObs os = now := ⟨_, rfl⟩
  rw [hnow] at m2 huh
  have HM2 := Lib.hid m2
  have HB2 := Lib.hid (HB1.out.trans (m2.fr.mono HB1.out.size))
  have HRM := Lib.hid (rmade_any (c := c1) (HO1.out.below m2.fr) HRN.out)
  rw [hnow] at HRM
  clear m2 HMD hnow
  go_wp2_with fail
  refine HRM.out.mono ?_
  rintro e wa ⟨bx, vx, P, rfl, xr⟩
  obtain ⟨va, vc, rfl, _, _⟩ := own_shape5 xr.r.l1.row
  obtain ⟨PL, hPL⟩ : ∃ PL, P.length = PL := ⟨_, rfl⟩
  rw [hPL] at xr ⊢
  obtain ⟨wb, hwb⟩ : ∃ wb, wa.alloc (.cells #[.int .i64 W, .int .i64 0, .slice va PL vc, .slice none 0 0] 30) = wb := ⟨_, rfl⟩
  have hbab : Below wa.heap.size wa wb := by rw [← hwb]; exact (Below.refl _ _).alloc (Nat.le_refl _) _
  obtain ⟨rb, hrb⟩ : ∃ rb, wa.heap.size = rb := ⟨_, rfl⟩
  have htw := twin_of HM2.out.m HM2.out.z xr hbab (rb := rb) (by rw [← hwb, ← hrb]; exact heap_alloc_new wa _) (by omega)
  have hb2b : Below w2.heap.size w2 wb := xr.fr.trans (hbab.mono xr.fr.size)
  have HTW := Lib.hid htw.1
  have HTG := Lib.hid htw.2
  have HBX := Lib.hid hb2b
  have HBY := Lib.hid (HB2.out.trans (hb2b.mono HB2.out.size))
  have HWD := Lib.hid (words_root (c := c1) (c2 := c2) ((HO1.out.below HM2.out.fr).below hb2b) (HRV.out.below HBY.out))
  have HWB := Lib.hid hwb
  have HRB := Lib.hid hrb
  clear htw hb2b xr hbab hPL hwb hrb HRM
  go_wp2_with fail
  rw [HWB.out, HRB.out]
  clear HWB HRB
  go_wp2_with fail
  refine HWD.out.mono ?_
  rintro e w3 ⟨v3, rfl, hown3, hb3⟩
  obtain ⟨ns, hns⟩ : ∃ ns, rootsN os zs (min N2 50) = ns := ⟨_, rfl⟩
  have hnl : ns.length = min N2 50 := by rw [← hns]; exact rootsN_len' hzl
  have hnw : ∀ x ∈ ns, x < 18446744073709551616 := by rw [← hns]; exact rootsN_lt _ _ _
  rw [hns] at hown3
  obtain ⟨M, hM⟩ : ∃ M, min N2 50 = M := ⟨_, rfl⟩
  have hM50 : M ≤ 50 := by omega
  rw [hM] at hown3 hnl
  obtain ⟨a3, c3, rfl, hWV, hg3⟩ := wordsV_own hown3 hnl (by omega) hnw
  have HWV := Lib.hid hWV
  have HOW3 := Lib.hid hown3
  have HB3 := Lib.hid hb3
  have HNW := Lib.hid hnw
  have HNL := Lib.hid hnl
  have HM3 := Lib.hid (HTW.out.m.below hb3)
  have HG3 := Lib.hid (show ∀ (g off : Nat), a3 = some ⟨g, off, none⟩ → ¬ Own w1.heap.size R2 g from fun g off hg q => by
    have h1 := (hown3.lt g (hg3 g off hg)).1
    have := HTW.out.m.own_lt g q
    omega)
  have HBB3 := Lib.hid (HBY.out.trans (hb3.mono HBY.out.size))
  have HT3 := Lib.hid (HTW.out.below hb3)
  have HNO := Lib.hid (row_no hown3)
  clear hown3 hb3 hWV hns hM hg3 hnl HWD hzl
  have HLV := Lib.hid (live_any (c := c3) HM3.out HM2.out.z HWV.out)
  go_wp2_with fail
  refine HLV.out.mono ?_
  rintro e w4 ⟨rfl, hb4⟩
  have HT4 := Lib.hid (HT3.out.below hb4)
  have HB4 := Lib.hid (HBB3.out.trans (hb4.mono HBB3.out.size))
  have HRL := Lib.hid (rlive_any (c := c3) HT4.out.rt (HWV.out.below hb4) HNO.out (by omega))
  obtain ⟨LN, hLN⟩ : ∃ LN : Int, ((liveN now 0 W ns : Nat) : Int) = LN := ⟨_, rfl⟩
  obtain ⟨CE, hCE⟩ : ∃ CE, checkE now 0 W ns = CE := ⟨_, rfl⟩
  rw [hLN, hCE] at HRL ⊢
  clear hb4 HLV hLN hCE
  go_wp2_with fail
  refine HRL.out.mono ?_
  rintro e w5 ⟨rfl, hb5⟩
  have HB5 := Lib.hid (HB4.out.trans (hb5.mono HB4.out.size))
  have HSM := Lib.hid (gsame_any (HT4.out.below hb5))
  have q1 : (LN == LN) = true := by simp
  have q2 : (CE == CE) = true := by simp
  clear hb5 HRL
  go_wp2_with fail
  refine HSM.out.mono ?_
  rintro e w6 ⟨rfl, hb6⟩
  have HB6 := Lib.hid (HB5.out.trans (hb6.mono HB5.out.size))
  clear hb6
  go_wp2_with fail
  refine (known_any _).mono ?_
  rintro e wk ⟨rfl, hbk⟩
  have HBK := Lib.hid (HB6.out.trans (hbk.mono HB6.out.size))
  clear hbk
  go_wp2_with fail
  go_ret
  exact ⟨rfl, HBK.out⟩
end Go.Proofs.Ytjdhjehnofediaa
