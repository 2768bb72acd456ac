/- The walk of the statement GcCollects: it returns true. Condition: the arguments read as objects and integers. -/
import Derived.Test.YtjdhjehnofediaaGcLent
namespace Go.Proofs.Ytjdhjehnofediaa
open Go Go.RowKit
set_option maxRecDepth 100000 in
set_option maxHeartbeats 8000000 in
theorem gcCollects_walk {w : World} {a : Option Addr} {N c : Nat} {rs : List O4} {v2 : Value} {zs : List Int} (hv : ArgV w a N rs) (hz : IntsV w v2 zs) :
    Calls Try.prog 3 #[.slice a N c, v2] w fun e w' => e = .returned (.bool true) ∧ Below w.heap.size w w' := by
  have hrng := hv.rng
  obtain ⟨a2, N2, c2, rfl, hrv⟩ := roots_of hz
  have hzl := hrv.len
  have HH := Lib.hid (heap_any (c := c) hv)
  have HRV := Lib.hid hrv
  have huh := used_heap hrng
  have hWb := heapW_bd hrng
  have HRN := Lib.hid (heapR hrng)
  obtain ⟨W, hW⟩ : ∃ W, heapW rs = W := ⟨_, rfl⟩
  obtain ⟨os, hos⟩ : ∃ os, heapO rs = os := ⟨_, rfl⟩
  rw [hW, hos] at HH HRN
  rw [hW, hos] at huh
  rw [hW] at hWb
  obtain ⟨N1, hN1⟩ : ∃ N1, os.length = N1 := ⟨_, rfl⟩
  rw [hN1] at HH
  clear hv hz hrv hrng hW hos hN1
  go_enter Try.func3, Try.ntmps3
  go_wp2_with fail
  refine HH.out.mono ?_
  rintro e w1 ⟨a1, c1, rfl, ho1, hb1⟩
  have HO1 := Lib.hid ho1
  have HB1 := Lib.hid hb1
  clear ho1 hb1 HH
  have HMD := Lib.hid (made_any (c := c1) HO1.out HRN.out)
  go_wp2_with fail
  refine HMD.out.mono ?_
  rintro e w2 ⟨rfl, R2, m2⟩
  have hpn : ((some (⟨w1.heap.size, 0, none⟩ : Addr)) == none) = false := rfl
  obtain ⟨now, hnow⟩ : ∃ now, heapObs os = now := ⟨_, rfl⟩
  rw [hnow] at m2 huh
  have HM2 := Lib.hid m2
  have HB2 := Lib.hid (HB1.out.trans (m2.fr.mono HB1.out.size))
  have HRM := Lib.hid (rmade_any (c := c1) (HO1.out.below m2.fr) HRN.out)
  rw [hnow] at HRM
  clear m2 HMD hnow
  go_wp2_with fail
  refine HRM.out.mono ?_
  rintro e wa ⟨bx, vx, P, rfl, xr⟩
  obtain ⟨va, vc, rfl, _, _⟩ := own_shape5 xr.r.l1.row
  obtain ⟨PL, hPL⟩ : ∃ PL, P.length = PL := ⟨_, rfl⟩
  rw [hPL] at xr ⊢
  obtain ⟨wb, hwb⟩ : ∃ wb, wa.alloc (.cells #[.int .i64 W, .int .i64 0, .slice va PL vc, .slice none 0 0] 30) = wb := ⟨_, rfl⟩
  have hbab : Below wa.heap.size wa wb := by rw [← hwb]; exact (Below.refl _ _).alloc (Nat.le_refl _) _
  obtain ⟨rb, hrb⟩ : ∃ rb, wa.heap.size = rb := ⟨_, rfl⟩
  have htw := twin_of HM2.out.m HM2.out.z xr hbab (rb := rb) (by rw [← hwb, ← hrb]; exact heap_alloc_new wa _) (by omega)
  have hb2b : Below w2.heap.size w2 wb := xr.fr.trans (hbab.mono xr.fr.size)
  have HTW := Lib.hid htw.1
  have HTG := Lib.hid htw.2
  have HBX := Lib.hid hb2b
  have HBY := Lib.hid (HB2.out.trans (hb2b.mono HB2.out.size))
  have HWD := Lib.hid (words_root (c := c1) (c2 := c2) ((HO1.out.below HM2.out.fr).below hb2b) (HRV.out.below HBY.out))
  have HWB := Lib.hid hwb
  have HRB := Lib.hid hrb
  clear htw hb2b xr hbab hPL hwb hrb HRM
  go_wp2_with fail
  rw [HWB.out, HRB.out]
  clear HWB HRB
  go_wp2_with fail
  refine HWD.out.mono ?_
  rintro e w3 ⟨v3, rfl, hown3, hb3⟩
  obtain ⟨ns, hns⟩ : ∃ ns, rootsN os zs (min N2 50) = ns := ⟨_, rfl⟩
  have hnl : ns.length = min N2 50 := by rw [← hns]; exact rootsN_len' hzl
  have hnw : ∀ x ∈ ns, x < 18446744073709551616 := by rw [← hns]; exact rootsN_lt _ _ _
  rw [hns] at hown3
  obtain ⟨M, hM⟩ : ∃ M, min N2 50 = M := ⟨_, rfl⟩
  have hM50 : M ≤ 50 := by omega
  rw [hM] at hown3 hnl
  obtain ⟨a3, c3, rfl, hWV, hg3⟩ := wordsV_own hown3 hnl (by omega) hnw
  have HWV := Lib.hid hWV
  have HOW3 := Lib.hid hown3
  have HB3 := Lib.hid hb3
  have HNW := Lib.hid hnw
  have HNL := Lib.hid hnl
  have HM3 := Lib.hid (HTW.out.m.below hb3)
  have HG3 := Lib.hid (show ∀ (g off : Nat), a3 = some ⟨g, off, none⟩ → ¬ Own w1.heap.size R2 g from fun g off hg q => by
    have h1 := (hown3.lt g (hg3 g off hg)).1
    have := HTW.out.m.own_lt g q
    omega)
  have HBB3 := Lib.hid (HBY.out.trans (hb3.mono HBY.out.size))
  have HT3 := Lib.hid (HTW.out.below hb3)
  have HNO := Lib.hid (row_no hown3)
  clear hown3 hb3 hWV hns hM hg3 hnl HWD hzl
  have hge3 : ∀ (g off : Nat), a3 = some ⟨g, off, none⟩ → wb.heap.size ≤ g := fun g off hg => (HOW3.out.lt g (by subst hg; rfl)).1
  have HGE3 := Lib.hid hge3
  have HLE := Lib.hid (lentV_any HWV.out HNO.out (show M ≤ 1000 by omega))
  clear hge3
  go_wp2_with fail
  refine HLE.out.mono ?_
  rintro e w4 ⟨g4, c4, rfl, ho4, hb4⟩
  have HO4 := Lib.hid ho4
  have HB4 := Lib.hid (HBB3.out.trans (hb4.mono HBB3.out.size))
  have HT4 := Lib.hid (HT3.out.below hb4)
  have HV4 := Lib.hid (HWV.out.below hb4)
  have HIN := Lib.hid (lentV_words ho4 HWV.out.len HWV.out.word (by omega))
  have HG4 := Lib.hid (show w3.heap.size ≤ g4 ∧ g4 < w4.heap.size from ho4.lt g4 rfl)
  have HS4 := Lib.hid hb4.size
  clear ho4 hb4 HLE
  have HCO := Lib.hid (collect_any (c := c4) HT4.out.m HT4.out.z HIN.out (fun g off e q => by
    injection e with e; injection e with e1 _ _
    subst e1
    have h1 := HT3.out.m.own_lt _ q
    have := HG4.out.1
    omega) (by omega))
  go_wp2_with fail
  refine HCO.out.mono ?_
  rintro e w5 (⟨hr5, rfl, hb5⟩ | ⟨met, v5, R5, hr5, rfl, x5, ho5, hg5⟩)
  · have HT5 := Lib.hid (HT4.out.below hb5)
    have HV5 := Lib.hid (HV4.out.below hb5)
    have HB5 := Lib.hid (HB4.out.trans (hb5.mono HB4.out.size))
    have HI5 := Lib.hid ((Fr.of_below (O := fun _ => False) hb5).own HO4.out (fun _ _ => id))
    have HR5 := Lib.hid hr5
    have HCR := Lib.hid (rcollect_any HT5.out.rt HV5.out HNO.out (by omega) (fun g off e q => by
      have h1 := HTW.out.r.own_lt g q
      have h2 := HGE3.out g off e
      omega))
    clear hb5 hr5 HCO
    go_wp2_with fail
    refine HCR.out.mono ?_
    rintro e w6 (⟨_, rfl, hb6⟩ | ⟨met, _, _, _, _, _, hr6, _⟩)
    · have HT6 := Lib.hid (HT5.out.below hb6)
      have HV6 := Lib.hid (HV5.out.below hb6)
      have HB6 := Lib.hid (HB5.out.trans (hb6.mono HB5.out.size))
      have HI6 := Lib.hid ((Fr.of_below (O := fun _ => False) hb6).own HI5.out (fun _ _ => id))
      have HSA := Lib.hid (same_empty none none 0 0 w6)
      clear hb6 HCR
      go_wp2_with fail
      refine HSA.out.mono ?_
      rintro e w7 ⟨rfl, hb7⟩
      have HSM := Lib.hid (gsame_any (HT6.out.below hb7))
      have HB7 := Lib.hid hb7
      clear hb7 HSA
      go_wp2_with fail
      refine HSM.out.mono ?_
      rintro e w8 ⟨rfl, hb8⟩
      have hb68 := HB7.out.trans (hb8.mono HB7.out.size)
      have HKP := Lib.hid (keptV_any (c := c3) ((Fr.of_below (O := fun _ => False) hb68).own HI6.out (fun _ _ => id)) (HV6.out.below hb68) (by omega))
      have HB8 := Lib.hid (HB6.out.trans (hb68.mono HB6.out.size))
      clear hb8 hb68 HSM
      go_wp2_with fail
      refine HKP.out.mono ?_
      rintro e w9 ⟨rfl, hb9⟩
      have HB9 := Lib.hid (HB8.out.trans (hb9.mono HB8.out.size))
      clear hb9
      go_wp2_with fail
      refine (known_any _).mono ?_
      rintro e wk ⟨rfl, hbk⟩
      have HBK := Lib.hid (HB9.out.trans (hbk.mono HB9.out.size))
      clear hbk
      go_wp2_with fail
      go_ret
      exact ⟨rfl, HBK.out⟩
    · have := HR5.out
      rw [hr6] at this
      cases this
  · have hx5 : MX w4 (Own w1.heap.size R2) w1.heap.size W 1 ⟨newF 0 W now met, oldK 1 W now met met⟩ w5 R5 := x5
    have hok := reach_okm hr5
    have HOK := Lib.hid hok
    have HX5 := Lib.hid hx5
    have HR5 := Lib.hid hr5
    have HO5 := Lib.hid ho5
    have HG5 := Lib.hid hg5
    have hrt5 : RT w5 rb W 0 now [] (.slice va PL vc) P (.slice none 0 0) [] := ⟨HT4.out.r.kept hx5.fr (fun i hi q => HT4.out.ap i q hi), HT4.out.z, HT4.out.e1, HT4.out.e2⟩
    have hm2 : ∀ i, Own w1.heap.size R2 i → i < w2.heap.size := HM2.out.m.own_lt
    have hv5 : WordsV w5 a3 M ns := wordsV_fr HV4.out hx5.fr (fun g off e q => by
      have h1 := hm2 _ q
      have h2 := HGE3.out g off e
      have h3 := HBX.out.size
      omega)
    have HV5 := Lib.hid hv5
    have HI5 := Lib.hid (hx5.fr.own HO4.out (fun g e q => by
      obtain rfl : g4 = g := by simpa [Value.ownBlock] using e
      have h1 := HT3.out.m.own_lt _ q
      have := HG4.out.1
      omega))
    have HS5 := Lib.hid hx5.fr.size
    have HB5 := Lib.hid (HB4.out.trans (hx5.fr.below HB4.out.size (fun i hi => Nat.le_trans HB1.out.size (HM2.out.ge i hi))))
    have HCR := Lib.hid (rcollect_any hrt5 hv5 HNO.out (by omega) (fun g off e q => by
      have h1 := HTW.out.r.own_lt g q
      have h2 := HGE3.out g off e
      omega))
    have HRT5 := Lib.hid hrt5
    clear x5 hx5 hok hr5 ho5 hg5 hrt5 hm2 hv5 HCO
    go_wp2_with fail
    refine HCR.out.mono ?_
    rintro e w6 (⟨hr6, _, _⟩ | ⟨met6, v6, u1, Q1, u2, Q2, hr6, rfl, x6, ho6, hg6⟩)
    · have := HR5.out
      rw [hr6] at this
      cases this
    · have hr5 := HR5.out
      rw [hr6] at hr5
      obtain rfl := Option.some.inj hr5
      have hx6 : RX w5 (OwnR rb (.slice va PL vc) P (.slice none 0 0) []) rb W 1 (newF 0 W now met6) (oldK 1 W now met6 met6) w6 u1 Q1 u2 Q2 := x6
      have hlt4 : ∀ i, OwnR rb (.slice va PL vc) P (.slice none 0 0) [] i → i < w3.heap.size := HT3.out.r.own_lt
      have hge4 : ∀ i, OwnR rb (.slice va PL vc) P (.slice none 0 0) [] i → w.heap.size ≤ i := fun i hi => Nat.le_trans HB2.out.size (HTG.out i hi)
      have htw6 : Twin w6 w1.heap.size rb W 1 R5 (newF 0 W now met6) (oldK 1 W now met6 met6) u1 Q1 u2 Q2 :=
        ⟨HX5.out.m.kept hx6.fr (fun i hi q => by
          rcases HX5.out.own i hi with a | a
          · exact HT4.out.ap i a q
          · have h1 := hlt4 i q
            have h2 := HS4.out
            omega), HX5.out.z, hx6.t.r, hx6.t.e1, hx6.t.e2, fun i hi q => by
          rcases hx6.own i q with a | a
          · rcases HX5.out.own i hi with a' | a'
            · exact HT4.out.ap i a' a
            · have h1 := hlt4 i a
              have h2 := HS4.out
              omega
          · have h1 := HX5.out.m.own_lt i hi
            omega⟩
      have hl5 : (ns.map (renW 0 W now met6)).length = M := by rw [List.length_map]; exact HNL.out
      have hrl := ren_lt HM2.out.z HOK.out HNW.out
      obtain ⟨a5, k5, rfl, hw5, _⟩ := wordsV_own (hx6.fr.own HO5.out (fun g hg q => by
        have h1 := (HO5.out.lt g hg).1
        have h2 := hlt4 g q
        have h3 := HS4.out
        omega)) (by rw [List.length_map]) (by rw [HNL.out]; omega) hrl
      obtain ⟨a6, k6, rfl, hw6, _⟩ := wordsV_own ho6 (by rw [List.length_map]) (by rw [HNL.out]; omega) hrl
      rw [HNL.out] at hw5 hw6 ⊢
      have HSA := Lib.hid (sameV (c := k5) (d := k6) hw5 hw6 (by omega))
      have HT6 := Lib.hid htw6
      have HV6 := Lib.hid (wordsV_fr HV5.out hx6.fr (fun g off e q => by
        have h1 := HTW.out.r.own_lt g q
        have h2 := HGE3.out g off e
        omega))
      have HI6 := Lib.hid (hx6.fr.own HI5.out (fun g e q => by
        obtain rfl : g4 = g := by simpa [Value.ownBlock] using e
        have h1 := hlt4 _ q
        have := HG4.out.1
        omega))
      have HB6 := Lib.hid (HB5.out.trans (hx6.fr.below HB5.out.size hge4))
      clear x6 hx6 hlt4 hge4 htw6 hl5 hrl hw5 hw6 ho6 hg6 hr5 hr6 HCR
      go_wp2_with fail
      refine HSA.out.mono ?_
      rintro e w7 ⟨rfl, hb7⟩
      have HSM := Lib.hid (gsame_any (HT6.out.below hb7))
      have HB7 := Lib.hid hb7
      clear hb7 HSA
      go_wp2_with fail
      refine HSM.out.mono ?_
      rintro e w8 ⟨rfl, hb8⟩
      have hb68 := HB7.out.trans (hb8.mono HB7.out.size)
      have HKP := Lib.hid (keptV_any (c := c3) ((Fr.of_below (O := fun _ => False) hb68).own HI6.out (fun _ _ => id)) (HV6.out.below hb68) (by omega))
      have HB8 := Lib.hid (HB6.out.trans (hb68.mono HB6.out.size))
      clear hb8 hb68 HSM
      go_wp2_with fail
      refine HKP.out.mono ?_
      rintro e w9 ⟨rfl, hb9⟩
      have HB9 := Lib.hid (HB8.out.trans (hb9.mono HB8.out.size))
      clear hb9
      go_wp2_with fail
      refine (known_any _).mono ?_
      rintro e wk ⟨rfl, hbk⟩
      have HBK := Lib.hid (HB9.out.trans (hbk.mono HB9.out.size))
      clear hbk
      go_wp2_with fail
      go_ret
      exact ⟨rfl, HBK.out⟩
end Go.Proofs.Ytjdhjehnofediaa
