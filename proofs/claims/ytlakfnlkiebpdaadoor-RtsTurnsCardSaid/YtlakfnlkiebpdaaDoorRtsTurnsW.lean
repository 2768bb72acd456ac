/- The walk of the statement RtsTurns: it returns true. Condition: the arguments read as objects and integers. -/
import Derived.Test.YtlakfnlkiebpdaaDoorRtsST
import Derived.Test.YtlakfnlkiebpdaaDoorRtsGetsW
namespace Go.Proofs.YtlakfnlkiebpdaaDoor
open Go Go.RowKit
set_option maxRecDepth 100000 in
set_option maxHeartbeats 16000000 in
theorem rtsTurns_walk {w : World} {a : Option Addr} {N c : Nat} {rs : List O4} (hv : ArgV w a N rs) (one two most : Int) (ho0 : -9223372036854775808 ≤ one) (ho1 : one ≤ 9223372036854775807) (ht0 : -9223372036854775808 ≤ two) (ht1 : two ≤ 9223372036854775807) (hm0 : -9223372036854775808 ≤ most) :
    Calls Tryd.prog 7 #[.slice a N c, .int .i64 one, .int .i64 two, .int .i64 most] w fun e w' => e = .returned (.bool true) ∧ Below w.heap.size w w' := by
  have HK := Lib.hid rknown_any
  have hrng := hv.rng
  have HH := Lib.hid (heap_any (c := c) hv)
  have hWb := heapW_bd hrng
  have HRN := Lib.hid (heapR hrng)
  have HSH := Lib.hid (heap_short (rs := rs))
  obtain ⟨W, hW⟩ : ∃ W, heapW rs = W := ⟨_, rfl⟩
  obtain ⟨os, hos⟩ : ∃ os, heapO rs = os := ⟨_, rfl⟩
  rw [hW, hos] at HH HRN
  rw [hW] at hWb
  rw [hos] at HSH
  obtain ⟨N1, hN1⟩ : ∃ N1, os.length = N1 := ⟨_, rfl⟩
  rw [hN1] at HH
  have hrb1 := rootW_bd os one
  have hrb2 := rootW_bd os two
  have HRT1 := Lib.hid (fun (W1 : World) (a1 : Option Addr) (c1 : Nat) (h : ObsV W1 a1 N1 os) => root_any (c := c1) h one ho0 ho1)
  have HRT2 := Lib.hid (fun (W1 : World) (a1 : Option Addr) (c1 : Nat) (h : ObsV W1 a1 N1 os) => root_any (c := c1) h two ht0 ht1)
  obtain ⟨q, hq⟩ : ∃ q : Nat, rootW os one = q := ⟨(rootW os one).toNat, by omega⟩
  obtain ⟨p, hp⟩ : ∃ p : Nat, rootW os two = p := ⟨(rootW os two).toNat, by omega⟩
  rw [hq] at HRT1 hrb1
  rw [hp] at HRT2 hrb2
  have hq64 : q < 18446744073709551616 := by omega
  have hp64 : p < 18446744073709551616 := by omega
  obtain ⟨now, hnow⟩ : ∃ now, heapObs os = now := ⟨_, rfl⟩
  rw [hnow] at HSH
  have HNW := Lib.hid hnow
  clear hv hrng hW hos hN1 hq hp hnow hrb1 hrb2 ho0 ho1 ht0 ht1
  by_cases hbig : 2000 < most
  · have hd : decide ((2000 : Int) < most) = true := decide_eq_true hbig
    obtain ⟨T, hT⟩ : ∃ T, ansT (2000 : Int).toNat (sameN (lookS now 0 W) q p (2000 : Int).toNat) = T := ⟨_, rfl⟩
    obtain ⟨E1, E2, E3⟩ := T
    have HT := Lib.hid hT
    clear hT
    go_enter Tryd.func7, Tryd.ntmps7
    go_wp2_with fail
    refine (HH.out).mono ?_
    rintro e w1 ⟨a1, c1, rfl, ho1, hb1⟩
    have HB1 := Lib.hid hb1
    have HO1 := Lib.hid ho1
    have HMD := Lib.hid (made_any (c := c1) ho1 HRN.out)
    clear hb1 ho1
    go_wp2_with fail
    refine (HMD.out).mono ?_
    rintro e w2 ⟨rfl, R2, m2⟩
    have hpn : ((some (⟨w1.heap.size, 0, none⟩ : Addr)) == none) = false := rfl
    rw [HNW.out] at m2
    have HM2 := Lib.hid m2
    have ho2 := HO1.out.below m2.fr
    have HO2 := Lib.hid ho2
    have HM4 := Lib.hid m2.m
    have HZ := Lib.hid m2.z
    have HO4 := Lib.hid ho2
    have HB4 := Lib.hid (HB1.out.trans (m2.fr.mono HB1.out.size))
    obtain ⟨w4, hw4⟩ : ∃ w4, w2 = w4 := ⟨_, rfl⟩
    subst hw4
    clear m2 ho2 HMD
    go_wp2_with fail
    refine (HRT1.out w2 a1 c1 HO4.out).mono ?_
    rintro e w5 ⟨rfl, hw5⟩
    subst w5
    go_wp2_with fail
    refine (HRT2.out w2 a1 c1 HO4.out).mono ?_
    rintro e w5 ⟨rfl, hw5⟩
    subst w5
    have hg1 := same_any5 HM4.out HZ.out q p hq64 hp64 (2000 : Int) (by omega) (by omega)
    unfold SameTo at hg1
    rw [HT.out] at hg1
    have HG1 := Lib.hid hg1
    clear hg1
    go_wp2_with fail
    refine (HG1.out).mono ?_
    rintro e w5 ⟨rfl, hb5⟩
    have HB5 := Lib.hid hb5
    have hg2 := same_any5 (HM4.out.below hb5) HZ.out p q hp64 hq64 (2000 : Int) (by omega) (by omega)
    unfold SameTo at hg2
    rw [sameN_symm, HT.out] at hg2
    have HG2 := Lib.hid hg2
    clear hg2 hb5
    go_wp2_with fail
    refine (HG2.out).mono ?_
    rintro e w6 ⟨rfl, hb6⟩
    have HB6 := Lib.hid (HB5.out.trans (hb6.mono HB5.out.size))
    clear hb6
    have hg3 := same_any5 (HM4.out.below HB6.out) HZ.out q q hq64 hq64 (2000 : Int) (by omega) (by omega)
    unfold SameTo at hg3
    have hne := sameN_self now 0 W (2000 : Int).toNat q
    obtain ⟨r, hr⟩ : ∃ r, sameN (lookS now 0 W) q q (2000 : Int).toNat = r := ⟨_, rfl⟩
    rw [hr] at hg3 hne
    unfold ansT at hg3
    by_cases h4 : r.1 = 4
    · rw [if_pos h4] at hg3
      have HG3 := Lib.hid hg3
      clear hg3 hr hne h4
      go_wp2_with fail
      refine (HG3.out).mono ?_
      rintro e w7 ⟨rfl, hb7⟩
      have HB7 := Lib.hid (HB4.out.trans ((HB6.out.trans (hb7.mono HB6.out.size)).mono HB4.out.size))
      clear hb7
      go_wp2_with fail
      refine (HK.out _).mono ?_
      rintro e w9 ⟨rfl, hb9⟩
      have HB9 := Lib.hid (HB7.out.trans (hb9.mono HB7.out.size))
      clear hb9
      go_wp2_with fail
      go_ret
      exact ⟨rfl, HB9.out⟩
    · rw [if_neg h4] at hg3
      have hneB : ((r.1 : Int) != 0) = true := by simp; omega
      obtain ⟨F2, hF2⟩ : ∃ F, (((2000 : Int).toNat - r.2 : Nat) : Int) = F := ⟨_, rfl⟩
      simp only [hF2] at hg3
      obtain ⟨F1, hF1⟩ : ∃ F, (r.1 : Int) = F := ⟨_, rfl⟩
      simp only [hF1] at hg3
      rw [hF1] at hneB
      clear hF1 hF2
      have HG3 := Lib.hid hg3
      clear hg3 hr hne h4
      go_wp2_with fail
      refine (HG3.out).mono ?_
      rintro e w7 ⟨rfl, hb7⟩
      have HB7 := Lib.hid (HB4.out.trans ((HB6.out.trans (hb7.mono HB6.out.size)).mono HB4.out.size))
      clear hb7
      go_wp2_with fail
      refine (HK.out _).mono ?_
      rintro e w9 ⟨rfl, hb9⟩
      have HB9 := Lib.hid (HB7.out.trans (hb9.mono HB7.out.size))
      clear hb9
      go_wp2_with fail
      go_ret
      exact ⟨rfl, HB9.out⟩
  · have hd : decide ((2000 : Int) < most) = false := decide_eq_false hbig
    obtain ⟨T, hT⟩ : ∃ T, ansT (most : Int).toNat (sameN (lookS now 0 W) q p (most : Int).toNat) = T := ⟨_, rfl⟩
    obtain ⟨E1, E2, E3⟩ := T
    have HT := Lib.hid hT
    clear hT
    go_enter Tryd.func7, Tryd.ntmps7
    go_wp2_with fail
    refine (HH.out).mono ?_
    rintro e w1 ⟨a1, c1, rfl, ho1, hb1⟩
    have HB1 := Lib.hid hb1
    have HO1 := Lib.hid ho1
    have HMD := Lib.hid (made_any (c := c1) ho1 HRN.out)
    clear hb1 ho1
    go_wp2_with fail
    refine (HMD.out).mono ?_
    rintro e w2 ⟨rfl, R2, m2⟩
    have hpn : ((some (⟨w1.heap.size, 0, none⟩ : Addr)) == none) = false := rfl
    rw [HNW.out] at m2
    have HM2 := Lib.hid m2
    have ho2 := HO1.out.below m2.fr
    have HO2 := Lib.hid ho2
    have HM4 := Lib.hid m2.m
    have HZ := Lib.hid m2.z
    have HO4 := Lib.hid ho2
    have HB4 := Lib.hid (HB1.out.trans (m2.fr.mono HB1.out.size))
    obtain ⟨w4, hw4⟩ : ∃ w4, w2 = w4 := ⟨_, rfl⟩
    subst hw4
    clear m2 ho2 HMD
    go_wp2_with fail
    refine (HRT1.out w2 a1 c1 HO4.out).mono ?_
    rintro e w5 ⟨rfl, hw5⟩
    subst w5
    go_wp2_with fail
    refine (HRT2.out w2 a1 c1 HO4.out).mono ?_
    rintro e w5 ⟨rfl, hw5⟩
    subst w5
    have hg1 := same_any5 HM4.out HZ.out q p hq64 hp64 (most : Int) (by omega) (by omega)
    unfold SameTo at hg1
    rw [HT.out] at hg1
    have HG1 := Lib.hid hg1
    clear hg1
    go_wp2_with fail
    refine (HG1.out).mono ?_
    rintro e w5 ⟨rfl, hb5⟩
    have HB5 := Lib.hid hb5
    have hg2 := same_any5 (HM4.out.below hb5) HZ.out p q hp64 hq64 (most : Int) (by omega) (by omega)
    unfold SameTo at hg2
    rw [sameN_symm, HT.out] at hg2
    have HG2 := Lib.hid hg2
    clear hg2 hb5
    go_wp2_with fail
    refine (HG2.out).mono ?_
    rintro e w6 ⟨rfl, hb6⟩
    have HB6 := Lib.hid (HB5.out.trans (hb6.mono HB5.out.size))
    clear hb6
    have hg3 := same_any5 (HM4.out.below HB6.out) HZ.out q q hq64 hq64 (most : Int) (by omega) (by omega)
    unfold SameTo at hg3
    have hne := sameN_self now 0 W (most : Int).toNat q
    obtain ⟨r, hr⟩ : ∃ r, sameN (lookS now 0 W) q q (most : Int).toNat = r := ⟨_, rfl⟩
    rw [hr] at hg3 hne
    unfold ansT at hg3
    by_cases h4 : r.1 = 4
    · rw [if_pos h4] at hg3
      have HG3 := Lib.hid hg3
      clear hg3 hr hne h4
      go_wp2_with fail
      refine (HG3.out).mono ?_
      rintro e w7 ⟨rfl, hb7⟩
      have HB7 := Lib.hid (HB4.out.trans ((HB6.out.trans (hb7.mono HB6.out.size)).mono HB4.out.size))
      clear hb7
      go_wp2_with fail
      refine (HK.out _).mono ?_
      rintro e w9 ⟨rfl, hb9⟩
      have HB9 := Lib.hid (HB7.out.trans (hb9.mono HB7.out.size))
      clear hb9
      go_wp2_with fail
      go_ret
      exact ⟨rfl, HB9.out⟩
    · rw [if_neg h4] at hg3
      have hneB : ((r.1 : Int) != 0) = true := by simp; omega
      obtain ⟨F2, hF2⟩ : ∃ F, (((most : Int).toNat - r.2 : Nat) : Int) = F := ⟨_, rfl⟩
      simp only [hF2] at hg3
      obtain ⟨F1, hF1⟩ : ∃ F, (r.1 : Int) = F := ⟨_, rfl⟩
      simp only [hF1] at hg3
      rw [hF1] at hneB
      clear hF1 hF2
      have HG3 := Lib.hid hg3
      clear hg3 hr hne h4
      go_wp2_with fail
      refine (HG3.out).mono ?_
      rintro e w7 ⟨rfl, hb7⟩
      have HB7 := Lib.hid (HB4.out.trans ((HB6.out.trans (hb7.mono HB6.out.size)).mono HB4.out.size))
      clear hb7
      go_wp2_with fail
      refine (HK.out _).mono ?_
      rintro e w9 ⟨rfl, hb9⟩
      have HB9 := Lib.hid (HB7.out.trans (hb9.mono HB7.out.size))
      clear hb9
      go_wp2_with fail
      go_ret
      exact ⟨rfl, HB9.out⟩
end Go.Proofs.YtlakfnlkiebpdaaDoor
