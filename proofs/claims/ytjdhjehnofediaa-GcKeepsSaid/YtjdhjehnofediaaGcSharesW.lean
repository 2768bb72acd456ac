/- The walk of the statement GcShares: it returns true. Condition: the arguments read as objects and integers. -/
import Derived.Test.YtjdhjehnofediaaGcFolP
import Derived.Test.YtjdhjehnofediaaMemCopy
namespace Go.Proofs.Ytjdhjehnofediaa
open Go Go.RowKit
theorem wv_drew {w : World} {a : Option Addr} {N : Nat} {ns : List Nat} (q : Nat) (h : WordsV w a N ns) : WordsV (w.drewN q) a N ns := ⟨h.len, h.few, h.word, h.cell⟩
theorem rv_drew {w : World} {a : Option Addr} {N : Nat} {zs : List Int} (q : Nat) (h : RootsV w a N zs) : RootsV (w.drewN q) a N zs := ⟨h.len, h.few, h.cell, h.rng⟩
theorem drewN_zero (w : World) : w.drewN 0 = w := rfl
set_option maxRecDepth 100000 in
set_option maxHeartbeats 8000000 in
theorem gcShares_walk {w : World} {a : Option Addr} {N c : Nat} {rs : List O4} {v2 v8 v9 : Value} {zs y8 y9 : List Int} (hv : ArgV w a N rs) (hz : IntsV w v2 zs) (hz8 : IntsV w v8 y8) (hz9 : IntsV w v9 y9) :
    Calls Try.prog 7 #[.slice a N c, v2, v8, v9] w fun e w' => e = .returned (.bool true) ∧ Below w.heap.size w w' := by
  obtain ⟨a8, N8, c8, rfl, hr8⟩ := roots_of hz8
  obtain ⟨a9, N9, c9, rfl, hr9⟩ := roots_of hz9
  have HY8 := Lib.hid hr8
  have HY9 := Lib.hid hr9
  clear hz8 hz9 hr8 hr9
  have hrng := hv.rng
  obtain ⟨a2, N2, c2, rfl, hrv⟩ := roots_of hz
  have hzl := hrv.len
  have HH := Lib.hid (heap_any (c := c) hv)
  have HRV := Lib.hid hrv
  have huh := used_heap hrng
  have hWb := heapW_bd hrng
  have HRN := Lib.hid (heapR hrng)
  obtain ⟨W, hW⟩ : ∃ W, heapW rs = W := ⟨_, rfl⟩
  obtain ⟨os, hos⟩ : ∃ os, heapO rs = os := ⟨_, rfl⟩
  rw [hW, hos] at HH HRN
  rw [hW, hos] at huh
  rw [hW] at hWb
  obtain ⟨N1, hN1⟩ : ∃ N1, os.length = N1 := ⟨_, rfl⟩
  rw [hN1] at HH
  clear hv hz hrv hrng hW hos hN1
  go_enter Try.func7, Try.ntmps7
  go_wp2_with fail
  refine HH.out.mono ?_
  rintro e w1 ⟨a1, c1, rfl, ho1, hb1⟩
  have HO1 := Lib.hid ho1
  have HB1 := Lib.hid hb1
  clear ho1 hb1 HH
  have HMD := Lib.hid (made_any (c := c1) HO1.out HRN.out)
  go_wp2_with fail
  refine HMD.out.mono ?_
  rintro e w2 ⟨rfl, R2, m2⟩
  have hpn : ((some (⟨w1.heap.size, 0, none⟩ : Addr)) == none) = false := rfl
  obtain ⟨now, hnow⟩ : ∃ now, heapObs os = now := ⟨_, rfl⟩
  rw [hnow] at m2 huh
  have HM2 := Lib.hid m2
  have HB2 := Lib.hid (HB1.out.trans (m2.fr.mono HB1.out.size))
  have HWD := Lib.hid (words_root (c := c1) (c2 := c2) (HO1.out.below m2.fr) (HRV.out.below HB2.out))
  clear m2 HMD hnow
  go_wp2_with fail
  refine HWD.out.mono ?_
  rintro e w3 ⟨v3, rfl, hown3, hb3⟩
  obtain ⟨ns, hns⟩ : ∃ ns, rootsN os zs (min N2 50) = ns := ⟨_, rfl⟩
  have hnl : ns.length = min N2 50 := by rw [← hns]; exact rootsN_len' hzl
  have hnw : ∀ x ∈ ns, x < 18446744073709551616 := by rw [← hns]; exact rootsN_lt _ _ _
  rw [hns] at hown3
  obtain ⟨M, hM⟩ : ∃ M, min N2 50 = M := ⟨_, rfl⟩
  have hM50 : M ≤ 50 := by omega
  rw [hM] at hown3 hnl
  obtain ⟨a3, c3, rfl, hWV, hg3⟩ := wordsV_own hown3 hnl (by omega) hnw
  have HWV := Lib.hid hWV
  have HOW3 := Lib.hid hown3
  have HB3 := Lib.hid hb3
  have HNW := Lib.hid hnw
  have HNL := Lib.hid hnl
  have HM3 := Lib.hid (HM2.out.m.below hb3)
  have HG3 := Lib.hid (show ∀ (g off : Nat), a3 = some ⟨g, off, none⟩ → ¬ Own w1.heap.size R2 g from fun g off hg q => by
    have h1 := (hown3.lt g (hg3 g off hg)).1
    have := HM2.out.m.own_lt g q
    omega)
  have HBB3 := Lib.hid (HB2.out.trans (hb3.mono HB2.out.size))
  clear hown3 hb3 hWV hns hM hg3 hnl HWD hzl
  have HCP := Lib.hid (copy_any HM3.out HM2.out.z.sizes)
  go_wp2_with fail
  refine HCP.out.mono ?_
  rintro e w3c ⟨rfl, Vc, mc, oc, bc⟩
  have HMC := Lib.hid (show Mem w3c w3.heap.size W 0 Vc now [] from mc)
  have HOC := Lib.hid oc
  have HBC := Lib.hid bc
  have HM3c := Lib.hid (HM3.out.below bc)
  have HWVc := Lib.hid (show WordsV w3c a3 M ns from ⟨HWV.out.len, HWV.out.few, HWV.out.word, fun j n hj => by
    obtain ⟨g, off, h1, h2, h3⟩ := HWV.out.cell j n hj
    exact ⟨g, off, h1, by have := bc.size; omega, (World.cell?_of_block (bc.block g h2)).trans h3⟩⟩)
  have HBBc := Lib.hid (HBB3.out.trans (bc.mono HBB3.out.size))
  clear mc oc bc HCP
  have HCO := Lib.hid (collect_any (c := c3) HM3c.out HM2.out.z HWVc.out HG3.out (by omega))
  go_wp2_with fail
  refine HCO.out.mono ?_
  rintro e w4 (⟨hr4, rfl, hb4⟩ | ⟨met, v4, R4, hr4, rfl, x4, ho4, hg4⟩)
  · have HB4 := Lib.hid (HBBc.out.trans (hb4.mono HBBc.out.size))
    have HHF := Lib.hid (half_any (HM3c.out.below hb4))
    clear hr4 hb4
    go_wp2_with fail
    refine HHF.out.mono ?_
    rintro e w5 ⟨rfl, hw5⟩
    subst w5
    go_wp2_with fail
    refine (known_any _).mono ?_
    rintro e wk ⟨rfl, hbk⟩
    have HBK := Lib.hid (HB4.out.trans (hbk.mono HB4.out.size))
    clear hbk
    go_wp2_with fail
    go_ret
    exact ⟨rfl, HBK.out⟩
  · skip
    have hok := reach_okm hr4
    have hli := live_old hr4
    have x4' : MX w3c (Own w1.heap.size R2) w1.heap.size W 1 ⟨newF 0 W now met, oldK 1 W now met met⟩ w4 R4 := x4
    obtain ⟨hbl4, hge4⟩ := mx_below HBBc.out (fun i hi => Nat.le_trans HB1.out.size (HM2.out.ge i hi)) x4'
    have HX4 := Lib.hid x4'
    have HB4 := Lib.hid hbl4
    have HGE4 := Lib.hid hge4
    have HR4 := Lib.hid hr4
    have HG4 := Lib.hid hg4
    have HO4 := Lib.hid ho4
    have HRL := Lib.hid (ren_lt HM2.out.z hok HNW.out)
    have hul := used_le_old HM2.out.z hok
    have hUW := x4'.z.un
    obtain ⟨U, hU⟩ : ∃ U, used (newF 0 W now met) = U := ⟨_, rfl⟩
    rw [hU] at hul hli
    have hUW' : U ≤ W := by have : used (newF 0 W now met) ≤ W := hUW; omega
    have HU := Lib.hid hU
    have HOK := Lib.hid hok
    have HLI := Lib.hid hli
    clear hUW x4 x4' hbl4 hge4 hr4 hg4 ho4 hok hU hli
    have HMO := Lib.hid (show Mem w4 w3.heap.size W 0 Vc now [] from HMC.out.kept HX4.out.fr (fun i hi q => by
      have h1 := HOC.out i hi
      have := HM3.out.own_lt i q
      omega))
    have HZO := Lib.hid (show WF W 0 now [] from HM2.out.z)
    have HM4 := Lib.hid (show Mem w4 w1.heap.size W 1 R4 (newF 0 W now met) (oldK 1 W now met met) from HX4.out.m)
    have HZ4 := Lib.hid (show WF W 1 (newF 0 W now met) (oldK 1 W now met met) from HX4.out.z)
    have HWO := Lib.hid (show WordsV w4 a3 M ns from ⟨HWVc.out.len, HWVc.out.few, HWVc.out.word, fun j n hj => by
      obtain ⟨g, off, h1, h2, h3⟩ := HWVc.out.cell j n hj
      exact ⟨g, off, h1, by have := HX4.out.fr.size; omega, (HX4.out.fr.cell (p := ⟨g, off + j, none⟩) h2 (HG3.out g off h1)).trans h3⟩⟩)
    obtain ⟨a4, c4, e4, hWV4, _⟩ := wordsV_own HO4.out (by rw [List.length_map]) (by rw [HNL.out]; omega) HRL.out
    rw [HNL.out] at e4 hWV4
    subst e4
    have HW4 := Lib.hid hWV4
    clear hWV4
    have HR8 := Lib.hid (HY8.out.below HB4.out)
    have HR9 := Lib.hid (HY9.out.below HB4.out)
    obtain ⟨F4, hF4⟩ : ∃ F, folR 0 W ⟨now, []⟩ ns y8 = F := ⟨_, rfl⟩
    obtain ⟨F5, hF5⟩ : ∃ F, folR 0 W ⟨now, []⟩ ns y9 = F := ⟨_, rfl⟩
    obtain ⟨F6, hF6⟩ : ∃ F, folR 1 W ⟨newF 0 W now met, oldK 1 W now met met⟩ (ns.map (renW 0 W now met)) y8 = F := ⟨_, rfl⟩
    obtain ⟨F7, hF7⟩ : ∃ F, folR 1 W ⟨newF 0 W now met, oldK 1 W now met met⟩ (ns.map (renW 0 W now met)) y9 = F := ⟨_, rfl⟩
    have HEQ := Lib.hid (show (((F4.1 : Int) == F5.1) == ((F6.1 : Int) == F7.1)) = true from by
      obtain ⟨g8, _, r8⟩ := folR_ren (o1 := []) (o2 := oldK 1 W now met met) HM2.out.z HR4.out y8
      obtain ⟨g9, _, r9⟩ := folR_ren (o1 := []) (o2 := oldK 1 W now met met) HM2.out.z HR4.out y9
      rw [hF4] at g8 r8
      rw [hF5] at g9 r9
      rw [hF6] at r8
      rw [hF7] at r9
      have hi := renW_inj HOK.out g8 g9
      rw [r8, r9]
      show (((F4.1 : Int) == F5.1) == (((renW 0 W now met F4.1 : Nat) : Int) == ((renW 0 W now met F5.1 : Nat) : Int))) = true
      by_cases q : F4.1 = F5.1
      · rw [q]; simp
      · have q2 : renW 0 W now met F4.1 ≠ renW 0 W now met F5.1 := fun h => q (hi.1 h)
        rw [beqF (show (F4.1 : Int) ≠ F5.1 by omega), beqF (show ((renW 0 W now met F4.1 : Nat) : Int) ≠ ((renW 0 W now met F5.1 : Nat) : Int) by omega)]
        rfl)
    have HFE4 := Lib.hid hF4
    have HFE5 := Lib.hid hF5
    have HFE6 := Lib.hid hF6
    have HFE7 := Lib.hid hF7
    have HWQ4 := Lib.hid (show ∃ q, w4 = w4.drewN q from ⟨0, rfl⟩)
    clear hF4 hF5 hF6 hF7
    have HFL4 := Lib.hid (show Calls Try.prog 32 #[.pointer (some ⟨w3.heap.size, 0, none⟩), .slice a3 M c3, .slice a8 N8 c8] w4 fun e w' => e = .returned (.tuple #[.int .u64 ((F4.1 : Nat) : Int), .bool F4.2]) ∧ ∃ n, w' = w4.drewN n from by
      obtain ⟨q, hq⟩ := HWQ4.out
      rw [hq, ← HFE4.out]
      exact follow_any (s := ⟨now, []⟩) (HMO.out.drewN q) HZO.out (wv_drew q HWO.out) (rv_drew q HR8.out) (by omega))
    go_wp2_with fail
    refine HFL4.out.mono ?_
    rintro e w5 ⟨rfl, n4, hn4⟩
    have HWQ5 := Lib.hid (show ∃ q, w5 = w4.drewN q from ⟨n4, hn4⟩)
    clear hn4 HFL4
    have HFL5 := Lib.hid (show Calls Try.prog 32 #[.pointer (some ⟨w3.heap.size, 0, none⟩), .slice a3 M c3, .slice a9 N9 c9] w5 fun e w' => e = .returned (.tuple #[.int .u64 ((F5.1 : Nat) : Int), .bool F5.2]) ∧ ∃ n, w' = w5.drewN n from by
      obtain ⟨q, hq⟩ := HWQ5.out
      rw [hq, ← HFE5.out]
      exact follow_any (s := ⟨now, []⟩) (HMO.out.drewN q) HZO.out (wv_drew q HWO.out) (rv_drew q HR9.out) (by omega))
    go_wp2_with fail
    refine HFL5.out.mono ?_
    rintro e w6 ⟨rfl, n5, hn5⟩
    have HWQ6 := Lib.hid (show ∃ q, w6 = w4.drewN q from by obtain ⟨q, hq⟩ := HWQ5.out; exact ⟨q + n5, by rw [hn5, hq, World.drewN_drewN]⟩)
    clear hn5 HFL5
    have HFL6 := Lib.hid (show Calls Try.prog 32 #[.pointer (some ⟨w1.heap.size, 0, none⟩), .slice a4 M c4, .slice a8 N8 c8] w6 fun e w' => e = .returned (.tuple #[.int .u64 ((F6.1 : Nat) : Int), .bool F6.2]) ∧ ∃ n, w' = w6.drewN n from by
      obtain ⟨q, hq⟩ := HWQ6.out
      rw [hq, ← HFE6.out]
      exact follow_any (s := ⟨newF 0 W now met, oldK 1 W now met met⟩) (HM4.out.drewN q) HZ4.out (wv_drew q HW4.out) (rv_drew q HR8.out) (by omega))
    go_wp2_with fail
    refine HFL6.out.mono ?_
    rintro e w7 ⟨rfl, n6, hn6⟩
    have HWQ7 := Lib.hid (show ∃ q, w7 = w4.drewN q from by obtain ⟨q, hq⟩ := HWQ6.out; exact ⟨q + n6, by rw [hn6, hq, World.drewN_drewN]⟩)
    clear hn6 HFL6
    have HFL7 := Lib.hid (show Calls Try.prog 32 #[.pointer (some ⟨w1.heap.size, 0, none⟩), .slice a4 M c4, .slice a9 N9 c9] w7 fun e w' => e = .returned (.tuple #[.int .u64 ((F7.1 : Nat) : Int), .bool F7.2]) ∧ ∃ n, w' = w7.drewN n from by
      obtain ⟨q, hq⟩ := HWQ7.out
      rw [hq, ← HFE7.out]
      exact follow_any (s := ⟨newF 0 W now met, oldK 1 W now met met⟩) (HM4.out.drewN q) HZ4.out (wv_drew q HW4.out) (rv_drew q HR9.out) (by omega))
    go_wp2_with fail
    refine HFL7.out.mono ?_
    rintro e w8 ⟨rfl, n7, hn7⟩
    have HWQ8 := Lib.hid (show ∃ q, w8 = w4.drewN q from by obtain ⟨q, hq⟩ := HWQ7.out; exact ⟨q + n7, by rw [hn7, hq, World.drewN_drewN]⟩)
    clear hn7 HFL7
    have hEQ := HEQ.out
    have HB8 := Lib.hid (show Below w.heap.size w w8 from by obtain ⟨q, hq⟩ := HWQ8.out; rw [hq]; exact ⟨HB4.out.os, HB4.out.tape, HB4.out.output, HB4.out.size, HB4.out.block⟩)
    cases hp4 : ((F4.1 : Int) == F5.1)
    all_goals
      rw [hp4] at hEQ
      have hp6 := (beq_iff_eq.1 hEQ).symm
      clear hEQ
      go_wp2_with fail
      refine (known_any _).mono ?_
      rintro e wk ⟨rfl, hbk⟩
      have HBK := Lib.hid (HB8.out.trans (hbk.mono HB8.out.size))
      clear hbk
      go_wp2_with fail
      go_ret
      exact ⟨rfl, HBK.out⟩
end Go.Proofs.Ytjdhjehnofediaa
