/- The walk of the statement GcRoom: it returns true. Condition: the arguments read as objects and integers. -/
import Derived.Test.YtjdhjehnofediaaGcBeg
namespace Go.Proofs.Ytjdhjehnofediaa
open Go Go.RowKit
theorem right_code {s : Int} (h0 : 0 ≤ s) (h1 : s ≤ 16384) : rightB 5 s 0 = true := right_yes (by omega)
set_option maxRecDepth 100000 in
set_option maxHeartbeats 8000000 in
theorem gcRoom_walk {w : World} {a : Option Addr} {N c : Nat} {rs : List O4} {v2 : Value} {zs : List Int} (hv : ArgV w a N rs) (hz : IntsV w v2 zs) :
    Calls Try.prog 11 #[.slice a N c, v2] w fun e w' => e = .returned (.bool true) ∧ Below w.heap.size w w' := by
  have hrng := hv.rng
  obtain ⟨a2, N2, c2, rfl, hrv⟩ := roots_of hz
  have hzl := hrv.len
  have HH := Lib.hid (heap_any (c := c) hv)
  have HRV := Lib.hid hrv
  have huh := used_heap hrng
  have hWb := heapW_bd hrng
  have HRN := Lib.hid (heapR hrng)
  obtain ⟨W, hW⟩ : ∃ W, heapW rs = W := ⟨_, rfl⟩
  obtain ⟨os, hos⟩ : ∃ os, heapO rs = os := ⟨_, rfl⟩
  rw [hW, hos] at HH HRN
  rw [hW, hos] at huh
  rw [hW] at hWb
  obtain ⟨N1, hN1⟩ : ∃ N1, os.length = N1 := ⟨_, rfl⟩
  rw [hN1] at HH
  clear hv hz hrv hrng hW hos hN1
  go_enter Try.func11, Try.ntmps11
  go_wp2_with fail
  refine HH.out.mono ?_
  rintro e w1 ⟨a1, c1, rfl, ho1, hb1⟩
  have HO1 := Lib.hid ho1
  have HB1 := Lib.hid hb1
  clear ho1 hb1 HH
  have HMD := Lib.hid (made_any (c := c1) HO1.out HRN.out)
  go_wp2_with fail
  refine HMD.out.mono ?_
  rintro e w2 ⟨rfl, R2, m2⟩
  have hpn : ((some (⟨w1.heap.size, 0, none⟩ : Addr)) == none) = false := rfl
  obtain ⟨now, hnow⟩ : ∃ now, heapObs os = now := ⟨_, rfl⟩
  rw [hnow] at m2 huh
  have HM2 := Lib.hid m2
  have HB2 := Lib.hid (HB1.out.trans (m2.fr.mono HB1.out.size))
  have HWD := Lib.hid (words_root (c := c1) (c2 := c2) (HO1.out.below m2.fr) (HRV.out.below HB2.out))
  clear m2 HMD hnow
  go_wp2_with fail
  refine HWD.out.mono ?_
  rintro e w3 ⟨v3, rfl, hown3, hb3⟩
  obtain ⟨ns, hns⟩ : ∃ ns, rootsN os zs (min N2 50) = ns := ⟨_, rfl⟩
  have hnl : ns.length = min N2 50 := by rw [← hns]; exact rootsN_len' hzl
  have hnw : ∀ x ∈ ns, x < 18446744073709551616 := by rw [← hns]; exact rootsN_lt _ _ _
  rw [hns] at hown3
  obtain ⟨M, hM⟩ : ∃ M, min N2 50 = M := ⟨_, rfl⟩
  have hM50 : M ≤ 50 := by omega
  rw [hM] at hown3 hnl
  obtain ⟨a3, c3, rfl, hWV, hg3⟩ := wordsV_own hown3 hnl (by omega) hnw
  have HWV := Lib.hid hWV
  have HOW3 := Lib.hid hown3
  have HB3 := Lib.hid hb3
  have HNW := Lib.hid hnw
  have HNL := Lib.hid hnl
  have HM3 := Lib.hid (HM2.out.m.below hb3)
  have HG3 := Lib.hid (show ∀ (g off : Nat), a3 = some ⟨g, off, none⟩ → ¬ Own w1.heap.size R2 g from fun g off hg q => by
    have h1 := (hown3.lt g (hg3 g off hg)).1
    have := HM2.out.m.own_lt g q
    omega)
  have HBB3 := Lib.hid (HB2.out.trans (hb3.mono HB2.out.size))
  clear hown3 hb3 hWV hns hM hg3 hnl HWD hzl
  have HCO := Lib.hid (collect_any (c := c3) HM3.out HM2.out.z HWV.out HG3.out (by omega))
  go_wp2_with fail
  refine HCO.out.mono ?_
  rintro e w4 (⟨hr4, rfl, hb4⟩ | ⟨met, v4, R4, hr4, rfl, x4, ho4, hg4⟩)
  · have HB4 := Lib.hid (HBB3.out.trans (hb4.mono HBB3.out.size))
    clear hr4 hb4
    go_wp2_with fail
    refine (known_any _).mono ?_
    rintro e wk ⟨rfl, hbk⟩
    have HBK := Lib.hid (HB4.out.trans (hbk.mono HB4.out.size))
    clear hbk
    go_wp2_with fail
    go_ret
    exact ⟨rfl, HBK.out⟩
  · skip
    have hok := reach_okm hr4
    have hli := live_old hr4
    have x4' : MX w3 (Own w1.heap.size R2) w1.heap.size W 1 ⟨newF 0 W now met, oldK 1 W now met met⟩ w4 R4 := x4
    obtain ⟨hbl4, hge4⟩ := mx_below HBB3.out (fun i hi => Nat.le_trans HB1.out.size (HM2.out.ge i hi)) x4'
    have HX4 := Lib.hid x4'
    have HB4 := Lib.hid hbl4
    have HGE4 := Lib.hid hge4
    have HR4 := Lib.hid hr4
    have HG4 := Lib.hid hg4
    have HO4 := Lib.hid ho4
    have HRL := Lib.hid (ren_lt HM2.out.z hok HNW.out)
    have hul := used_le_old HM2.out.z hok
    have hUW := x4'.z.un
    obtain ⟨U, hU⟩ : ∃ U, used (newF 0 W now met) = U := ⟨_, rfl⟩
    rw [hU] at hul hli
    have hUW' : U ≤ W := by have : used (newF 0 W now met) ≤ W := hUW; omega
    have HU := Lib.hid hU
    have HOK := Lib.hid hok
    have HLI := Lib.hid hli
    clear hUW x4 x4' hbl4 hge4 hr4 hg4 ho4 hok hU hli
    obtain ⟨F, hF⟩ : ∃ F : Nat, W = U + F + 1 := ⟨W - U - 1, by omega⟩
    have hF1 : 63 ≤ F := by omega
    have hF2 : F ≤ 600 := by omega
    obtain ⟨A, hA⟩ : ∃ A : Int, (W : Int) - U = A := ⟨_, rfl⟩
    have hA1 : 64 ≤ A := by omega
    have hA2 : A ≤ 600 := by omega
    have HAS := Lib.hid (show A - 1 = (F : Int) from by omega)
    have HWF := Lib.hid hF
    have HAE := Lib.hid hA
    clear hF hA
    obtain ⟨a4, c4, e4, hWV4, hg4'⟩ := wordsV_own HO4.out (by rw [List.length_map]) (by rw [HNL.out]; omega) HRL.out
    rw [HNL.out] at e4
    subst e4
    have HFR := Lib.hid (free_m HX4.out.m HX4.out.z HU.out A HAE.out)
    clear hWV4 hg4'
    go_wp2_with fail
    refine HFR.out.mono ?_
    rintro e w5 ⟨rfl, n5, hw5⟩
    have HX5 := Lib.hid (show MX w3 (Own w1.heap.size R2) w1.heap.size W 1 ⟨newF 0 W now met, oldK 1 W now met met⟩ w5 R4 from by rw [hw5]; exact HX4.out.drewN n5)
    have HO5 := Lib.hid (show w5.ownsRow w3.heap.size 56 1 (.slice a4 M c4) ns.length (u64s (ns.map (renW 0 W now met))) from by rw [hw5]; exact HO4.out)
    clear hw5 HFR
    have HAF := Lib.hid (alloc_full HX5.out.m HX5.out.z 5 A 0 (right_code (by omega) (by omega)) (by have := HU.out; have := HAE.out; show (W : Int) - used (newF 0 W now met) < A + 1; omega))
    go_wp2_with fail
    refine HAF.out.mono ?_
    rintro e w6 ⟨rfl, n6, hw6⟩
    have HX6 := Lib.hid (show MX w3 (Own w1.heap.size R2) w1.heap.size W 1 ⟨newF 0 W now met, oldK 1 W now met met⟩ w6 R4 from by rw [hw6]; exact HX5.out.drewN n6)
    have HO6 := Lib.hid (show w6.ownsRow w3.heap.size 56 1 (.slice a4 M c4) ns.length (u64s (ns.map (renW 0 W now met))) from by rw [hw6]; exact HO5.out)
    have HB6 := Lib.hid (mx_below HBB3.out (fun i hi => Nat.le_trans HB1.out.size (HM2.out.ge i hi)) HX6.out).1
    clear hw6 HAF
    have HAL := Lib.hid (alloc_to HX6.out.m HX6.out.z 5 F 0 5 (A - 1) 0 ((W : Int) + U + 1) rfl HAS.out rfl (by show adr 1 W (used (newF 0 W now met) : Nat) = _; rw [HU.out, adr_1]) (right_code (by omega) (by omega)) (by show used (newF 0 W now met) + F + 1 ≤ W; rw [HU.out]; have := HWF.out; omega))
    have HZ7 := Lib.hid (wf_alloc (k := 5) (s := F) (t := 0) HX6.out.z (right_code (by omega) (by omega)) (by show used (newF 0 W now met) + F + 1 ≤ W; rw [HU.out]; have := HWF.out; omega))
    go_wp2_with fail
    refine HAL.out.mono ?_
    rintro e w7 ⟨rfl, R7, m7, s7, f7⟩
    have HB7 := Lib.hid (HB6.out.trans (f7.below HB6.out.size HGE4.out))
    obtain ⟨a7, c7, e7, hWV7, _⟩ := wordsV_own (f7.own HO6.out HG4.out) (by rw [List.length_map]) (by rw [HNL.out]; omega) HRL.out
    rw [HNL.out] at e7 hWV7
    injection e7 with e7 _ e8
    subst e7 e8
    have HM7 := Lib.hid m7
    have HLV := Lib.hid (live_any (c := c4) m7 HZ7.out hWV7)
    obtain ⟨l1, l2⟩ := live_new (ex := [newOb 5 F 0]) HM2.out.z HR4.out
    have l1' : liveN (newF 0 W now met ++ [newOb 5 F 0]) 1 W (ns.map (renW 0 W now met)) = U := by rw [← HU.out]; exact l1
    have l2' : checkE (newF 0 W now met ++ [newOb 5 F 0]) 1 W (ns.map (renW 0 W now met)) = 0 := l2
    rw [l1', l2'] at HLV
    clear m7 s7 f7 hWV7 l1 l2 l1' l2'
    go_wp2_with fail
    refine HLV.out.mono ?_
    rintro e w8 ⟨rfl, hb8⟩
    have HM8 := Lib.hid (HM7.out.below hb8)
    have HB8 := Lib.hid (HB7.out.trans (hb8.mono HB7.out.size))
    have HF8 := Lib.hid (free_m (u := W) HM8.out HZ7.out (by rw [used_append, used_one, newOb_len (Nat.zero_le _)]; have := HU.out; have := HWF.out; omega) 0 (by omega))
    clear hb8 HLV
    have q1 : IntKind.i64.wrap (1 + (W : Int)) = 1 + W := by rw [IntKind.wrap_i64]; omega
    have q2 : IntKind.i64.wrap (1 + (W : Int) + U) = 1 + W + U := by rw [IntKind.wrap_i64]; omega
    have q3 : ((W : Int) + U + 1 == 1 + W + U) = true := by simp; omega
    go_wp2_with fail
    refine HF8.out.mono ?_
    rintro e w9 ⟨rfl, n9, hw9⟩
    have HB9 := Lib.hid (show Below w.heap.size w w9 from by rw [hw9]; exact ⟨HB8.out.os, HB8.out.tape, HB8.out.output, HB8.out.size, HB8.out.block⟩)
    clear hw9
    go_wp2_with fail
    refine (known_any _).mono ?_
    rintro e wk ⟨rfl, hbk⟩
    have HBK := Lib.hid (HB9.out.trans (hbk.mono HB9.out.size))
    clear hbk
    go_wp2_with fail
    go_ret
    exact ⟨rfl, HBK.out⟩
end Go.Proofs.Ytjdhjehnofediaa
