/- The walk of the statement RtsShort: it returns true. Condition: the arguments read as objects, an integer, a type and constructors; the library's table is as laid. -/
import Derived.Test.YtlakfnlkiebpdaaDoorRtsSeven
import Derived.Test.YtlakfnlkiebpdaaDoorGcFour
namespace Go.Proofs.YtlakfnlkiebpdaaDoor
open Go Go.RowKit
theorem pbS5 {a b c d e : Prop} (q : a ∧ b ∧ c ∧ d ∧ e) : e := q.2.2.2.2
theorem cut_cases (r : List UInt8) : (longB r = true ∧ cutS r = r.take 500 ++ [46, 46, 46] ∧ (r.take 500).length = 500) ∨ (cutS r).length ≤ 500 := by
  cases h : longB r with
  | true =>
    left
    refine ⟨rfl, by unfold cutS; rw [if_pos h], ?_⟩
    have := longB_t h
    rw [List.length_take]; omega
  | false =>
    right
    unfold cutS
    rw [if_neg (by rw [h]; decide)]
    exact longB_f h
set_option maxRecDepth 100000 in
set_option maxHeartbeats 16000000 in
theorem rtsShort_walk {w : World} {a : Option Addr} {N c : Nat} {rs : List O4} (hv : ArgV w a N rs) (root : Int) (ho0 : -9223372036854775808 ≤ root) (ho1 : root ≤ 9223372036854775807) (t : Ty) (u : Value) (hu : TyV w t.l u) (am : Option Addr) (Nm cm : Nat) (ms : List Mkr) (hk : MksV w am Nm ms) (hT : TabT w) :
    Calls Tryd.prog 9 #[.slice a N c, .int .i64 root, tyA t u, .slice am Nm cm] w fun e w' => e = .returned (.bool true) ∧ Below w.heap.size w w' := by
  have HK := Lib.hid rknown_any
  have hb0 := below_one w (.cells #[.int .i64 t.k, .int .i64 t.n, .string t.s, u] 61)
  have HB0 := Lib.hid hb0
  have hv := hv.below hb0
  have hrng := hv.rng
  have HH := Lib.hid (heap_any (c := c) hv)
  have hWb := heapW_bd hrng
  have HRN := Lib.hid (heapR hrng)
  obtain ⟨W, hW⟩ : ∃ W, heapW rs = W := ⟨_, rfl⟩
  obtain ⟨os, hos⟩ : ∃ os, heapO rs = os := ⟨_, rfl⟩
  rw [hW, hos] at HH HRN
  rw [hW] at hWb
  obtain ⟨N1, hN1⟩ : ∃ N1, os.length = N1 := ⟨_, rfl⟩
  rw [hN1] at HH
  have hrb1 := rootW_bd os root
  have HRT1 := Lib.hid (fun (W1 : World) (a1 : Option Addr) (c1 : Nat) (h : ObsV W1 a1 N1 os) => root_any (c := c1) h root ho0 ho1)
  obtain ⟨q, hq⟩ : ∃ q : Nat, rootW os root = q := ⟨(rootW os root).toNat, by omega⟩
  rw [hq] at HRT1 hrb1
  have hq64 : q < 18446744073709551616 := by omega
  obtain ⟨now, hnow⟩ : ∃ now, heapObs os = now := ⟨_, rfl⟩
  have HNW := Lib.hid hnow
  have HU := Lib.hid (And.intro (hu.below hb0) (And.intro (hk.below hb0) (tabT_below hT (Nat.le_refl _) hb0)))
  clear hv hrng hW hos hN1 hq hnow hrb1 ho0 ho1 hu hk hT hb0
  unfold tyA
  go_enter Tryd.func9, Tryd.ntmps9
  go_wp2_with fail
  refine (HH.out).mono ?_
  rintro e w1 ⟨a1, c1, rfl, ho1, hb1⟩
  have HB1 := Lib.hid (HB0.out.trans (hb1.mono HB0.out.size))
  have HO1 := Lib.hid ho1
  have HMD := Lib.hid (made_any (c := c1) ho1 HRN.out)
  have hq1 := (hb1.block _ (by simp)).trans (heap_alloc_new w (.cells #[.int .i64 t.k, .int .i64 t.n, .string t.s, u] 61))
  have HQ1 := Lib.hid hq1
  have hz1 : w.heap.size < w1.heap.size := by have := hb1.size; simp at this; omega
  have HU1 := Lib.hid (And.intro (HU.out.1.below hb1) (And.intro (HU.out.2.1.below hb1) (tabT_below HU.out.2.2 (Nat.le_refl _) hb1)))
  clear hb1 ho1 hq1
  go_wp2_with fail
  refine (HMD.out).mono ?_
  rintro e w2 ⟨rfl, R2, m2⟩
  have hpn : ((some (⟨w1.heap.size, 0, none⟩ : Addr)) == none) = false := rfl
  rw [HNW.out] at m2
  have HM2 := Lib.hid m2
  have HO2 := Lib.hid (HO1.out.below m2.fr)
  have HB2 := Lib.hid (HB1.out.trans (m2.fr.mono HB1.out.size))
  have HU2 := Lib.hid (And.intro (HU1.out.1.below m2.fr) (And.intro (HU1.out.2.1.below m2.fr) (tabT_below HU1.out.2.2 (Nat.le_refl _) m2.fr)))
  obtain ⟨v0, v1, v2, v3⟩ := res4 ((m2.fr.block _ hz1).trans HQ1.out)
  clear m2 HMD
  have hfw := few_any (c := cm) HU2.out.2.1 t u HU2.out.1
  unfold tyA at hfw
  cases hfb : fewB t ms with
  | false =>
    rw [hfb] at hfw
    have HFW := Lib.hid hfw
    clear hfw hfb
    go_wp2_with fail
    refine HFW.out.mono ?_
    rintro e w3 ⟨rfl, hb3⟩
    have HB3 := Lib.hid (HB2.out.trans (hb3.mono HB2.out.size))
    clear hb3 v0 v1 v2 v3
    go_wp2_with fail
    refine (HK.out _).mono ?_
    rintro e w9 ⟨rfl, hb9⟩
    have HB9 := Lib.hid (HB3.out.trans (hb9.mono HB3.out.size))
    clear hb9
    go_wp2_with fail
    go_ret
    exact ⟨rfl, HB9.out⟩
  | true =>
    rw [hfb] at hfw
    have HFW := Lib.hid hfw
    have HFM := Lib.hid (few_mem hfb)
    clear hfw hfb
    go_wp2_with fail
    refine HFW.out.mono ?_
    rintro e w3 ⟨rfl, hb3⟩
    have HB3 := Lib.hid (HB2.out.trans (hb3.mono HB2.out.size))
    have HO3 := Lib.hid (HO2.out.below hb3)
    have hs3 : Sc w3 w1.heap.size W 0 now [] R2 am Nm ms := ⟨HM2.out.m.below hb3, HM2.out.z, HU2.out.2.1.below hb3, tabT_below HU2.out.2.2 (Nat.le_refl _) hb3, fun k hk => (HFM.out k hk).1, fun k hk => (HFM.out k hk).2⟩
    have hsh := show_any hs3 cm (cons_all hs3 cm) q hq64 t u (HU2.out.1.below hb3)
    have hv0 := below_cell hb3 v0
    have hv1 := below_cell hb3 v1
    have hv2 := below_cell hb3 v2
    have hv3 := below_cell hb3 v3
    unfold showS tyA at hsh
    obtain ⟨r, hr⟩ : ∃ r, (showF (LN now 0 W) (TN now 0 W) ms 30 q t).1 = r := ⟨_, rfl⟩
    rw [hr] at hsh
    have HSH0 := Lib.hid hsh
    have HS := Lib.hid (fun Y (hY : Below w3.heap.size w3 Y) => And.intro (below_cell hY hv0) (And.intro (below_cell hY hv1) (And.intro (below_cell hY hv2) (And.intro (below_cell hY hv3) hY))))
    have hd := HS.out w3 (Below.refl _ _)
    have HC1 := Lib.hid (fun (Y : World) (hY : Below w3.heap.size w3 Y) => (HRT1.out Y a1 c1 (HO3.out.below hY)).mono fun e w' ⟨h1, h2⟩ => (⟨h1, by rw [h2]; exact hY⟩ : e = Ending.returned (.int .u64 (q : Int)) ∧ Below w3.heap.size w3 w'))
    have HSC := Lib.hid hs3
    have HUT := Lib.hid (HU2.out.1.below hb3)
    have hsh2 := fun (Y : World) (hY : Below w3.heap.size w3 Y) => show_any (HSC.out.below hY) cm (cons_all (HSC.out.below hY) cm) q hq64 t u (HUT.out.below hY)
    unfold showS tyA at hsh2
    rw [hr] at hsh2
    have HSH := Lib.hid (fun (Y : World) (hY : Below w3.heap.size w3 Y) => (hsh2 Y hY).mono fun e w' ⟨h1, h2⟩ => (⟨h1, hY.trans (h2.mono hY.size)⟩ : e = Ending.returned (.string (bst (cutS r))) ∧ Below w3.heap.size w3 w'))
    clear hb3 hsh hsh2 hs3 hr v0 v1 v2 v3 hv0 hv1 hv2 hv3
    obtain ⟨tk, tn, tz, tl⟩ := t
    simp only [Ty.k, Ty.n, Ty.s] at HS HSH hd
    go_wp2_with fail
    go_region_held3 (fun Y => Y.cell? ⟨w.heap.size, 0, none⟩ = some (.int .i64 tk) ∧ Y.cell? ⟨w.heap.size, 1, none⟩ = some (.int .i64 tn) ∧ Y.cell? ⟨w.heap.size, 2, none⟩ = some (.string tz) ∧ Y.cell? ⟨w.heap.size, 3, none⟩ = some u ∧ Below w3.heap.size w3 Y)
      (first | (with_reducible assumption) | (with_reducible exact HS.out _ (Below.drew (Below.refl _ _))) | (with_reducible exact HS.out _ (by with_reducible assumption)))
      (first | (go_at_call 28; (with_reducible refine (HC1.out _ (pbS5 (by with_reducible assumption))).mono ?_); rintro e w' ⟨rfl, hww⟩) | (go_at_call 33; (with_reducible refine (HSH.out _ (pbS5 (by with_reducible assumption))).mono ?_); rintro e w' ⟨rfl, hww⟩))
    have HB6 := Lib.hid (HB3.out.trans (hww.mono HB3.out.size))
    clear hww hd
    rcases cut_cases r with ⟨_, hcut, h5⟩ | hle
    · rw [hcut]
      have hsz : (bst (r.take 500 ++ [46, 46, 46])).size = 503 := by rw [bst_size, List.length_append, h5]; rfl
      have hex : (bst (r.take 500 ++ [46, 46, 46])).extract 500 503 = ⟨#[46, 46, 46]⟩ := by
        refine ba_of (l := [46, 46, 46]) ?_
        have : ((bst (r.take 500 ++ [46, 46, 46])).extract 500 503).data.toList = ((r.take 500 ++ [46, 46, 46]).drop 500).take 3 := by simp [ByteArray.data_extract, bst]
        rw [this, List.drop_append_of_le_length (by omega), List.drop_eq_nil_of_le (by omega)]
        rfl
      obtain ⟨S, hS⟩ : ∃ S, bst (r.take 500 ++ [46, 46, 46]) = S := ⟨_, rfl⟩
      rw [hS] at hsz hex ⊢
      clear hcut h5 hS
      go_wp2_with fail
      refine (HK.out _).mono ?_
      rintro e w9 ⟨rfl, hb9⟩
      have HB9 := Lib.hid (HB6.out.trans (hb9.mono HB6.out.size))
      clear hb9
      go_wp2_with fail
      go_ret
      exact ⟨rfl, HB9.out⟩
    · have hsz : (bst (cutS r)).size ≤ 500 := by rw [bst_size]; exact hle
      obtain ⟨S, hS⟩ : ∃ S, bst (cutS r) = S := ⟨_, rfl⟩
      rw [hS] at hsz ⊢
      have q1 : decide ((S.size : Int) ≤ 503) = true := decide_eq_true (by omega)
      have q2 : decide ((S.size : Int) ≤ 500) = true := decide_eq_true (by omega)
      clear hle hS
      go_wp2_with fail
      refine (HK.out _).mono ?_
      rintro e w9 ⟨rfl, hb9⟩
      have HB9 := Lib.hid (HB6.out.trans (hb9.mono HB6.out.size))
      clear hb9
      go_wp2_with fail
      go_ret
      exact ⟨rfl, HB9.out⟩
end Go.Proofs.YtlakfnlkiebpdaaDoor
