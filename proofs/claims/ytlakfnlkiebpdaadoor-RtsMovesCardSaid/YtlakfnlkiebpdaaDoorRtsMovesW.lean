/- The walk of the statement RtsMoves: it returns true. Condition: the arguments read as objects, integers, a type and constructors; the library's table is as laid. -/
import Derived.Test.YtlakfnlkiebpdaaDoorRtsShortW
import Derived.Test.YtlakfnlkiebpdaaDoorRtsMvM
import Derived.Test.YtlakfnlkiebpdaaDoorRtsSS
namespace Go.Proofs.YtlakfnlkiebpdaaDoor
open Go Go.RowKit
theorem pbM3 {a b c : Prop} (q : a ∧ b ∧ c) : c := q.2.2
theorem pbM6 {a b c d e f : Prop} (q : a ∧ b ∧ c ∧ d ∧ e ∧ f) : f := q.2.2.2.2.2
theorem two_words {w : World} {q p : Nat} (hq : q < 18446744073709551616) (hp : p < 18446744073709551616) : WordsV (w.alloc (.cells #[.int .u64 (q : Int), .int .u64 (p : Int)] 33)) (some ⟨w.heap.size, 0, none⟩) 2 [q, p] := by
  have hb := blk_cellT (heap_alloc_new w (.cells #[.int .u64 (q : Int), .int .u64 (p : Int)] 33))
  refine ⟨rfl, by omega, fun n hn => ?_, fun j n hj => ⟨w.heap.size, 0, rfl, by simp, ?_⟩⟩
  · simp at hn; omega
  · rw [Nat.zero_add, hb j]
    match j, hj with
    | 0, hj => simp at hj; subst hj; rfl
    | 1, hj => simp at hj; subst hj; rfl
    | j + 2, hj => simp at hj
theorem words_two {w : World} {a : Option Addr} {y x : Nat} (h : WordsV w a 2 [y, x]) : ∃ g off, a = some ⟨g, off, none⟩ ∧ w.cell? ⟨g, off, none⟩ = some (.int .u64 (y : Int)) ∧ w.cell? ⟨g, off + 1, none⟩ = some (.int .u64 (x : Int)) := by
  obtain ⟨g, off, h1, _, h2⟩ := h.cell 0 y rfl
  obtain ⟨g', off', h3, _, h4⟩ := h.cell 1 x rfl
  rw [h1] at h3
  injection h3 with h3
  injection h3 with h5 h6
  subst h5 h6
  exact ⟨g, off, h1, h2, h4⟩
set_option maxRecDepth 100000 in
set_option maxHeartbeats 16000000 in
theorem rtsMoves_walk {w : World} {a : Option Addr} {N c : Nat} {rs : List O4} (hv : ArgV w a N rs) (one two : Int) (ho0 : -9223372036854775808 ≤ one) (ho1 : one ≤ 9223372036854775807) (ht0 : -9223372036854775808 ≤ two) (ht1 : two ≤ 9223372036854775807) (t : Ty) (u : Value) (hu : TyV w t.l u) (am : Option Addr) (Nm cm : Nat) (ms : List Mkr) (hk : MksV w am Nm ms) (hT : TabT w) :
    Calls Tryd.prog 8 #[.slice a N c, .int .i64 one, .int .i64 two, tyA t u, .slice am Nm cm] w fun e w' => e = .returned (.bool true) ∧ Below w.heap.size w w' := by
  have HK := Lib.hid rknown_any
  have hb0 := below_one w (.cells #[.int .i64 t.k, .int .i64 t.n, .string t.s, u] 61)
  have hz0 : w.heap.size < (w.alloc (.cells #[.int .i64 t.k, .int .i64 t.n, .string t.s, u] 61)).heap.size := by simp
  have hv := hv.below hb0
  have hrng := hv.rng
  have HH := Lib.hid (heap_any (c := c) hv)
  have hWb := heapW_bd hrng
  have HRN := Lib.hid (heapR hrng)
  have HBX := Lib.hid (heap_alloc_new w (.cells #[.int .i64 t.k, .int .i64 t.n, .string t.s, u] 61))
  obtain ⟨W, hW⟩ : ∃ W, heapW rs = W := ⟨_, rfl⟩
  obtain ⟨os, hos⟩ : ∃ os, heapO rs = os := ⟨_, rfl⟩
  rw [hW, hos] at HH HRN
  rw [hW] at hWb
  obtain ⟨N1, hN1⟩ : ∃ N1, os.length = N1 := ⟨_, rfl⟩
  rw [hN1] at HH
  have hrb1 := rootW_bd os one
  have hrb2 := rootW_bd os two
  have HRT1 := Lib.hid (fun (W1 : World) (a1 : Option Addr) (c1 : Nat) (h : ObsV W1 a1 N1 os) => root_any (c := c1) h one ho0 ho1)
  have HRT2 := Lib.hid (fun (W1 : World) (a1 : Option Addr) (c1 : Nat) (h : ObsV W1 a1 N1 os) => root_any (c := c1) h two ht0 ht1)
  obtain ⟨q, hq⟩ : ∃ q : Nat, rootW os one = q := ⟨(rootW os one).toNat, by omega⟩
  obtain ⟨p, hp⟩ : ∃ p : Nat, rootW os two = p := ⟨(rootW os two).toNat, by omega⟩
  rw [hq] at HRT1 hrb1
  rw [hp] at HRT2 hrb2
  have hq64 : q < 18446744073709551616 := by omega
  have hp64 : p < 18446744073709551616 := by omega
  obtain ⟨now, hnow⟩ : ∃ now, heapObs os = now := ⟨_, rfl⟩
  have HNW := Lib.hid hnow
  have HU := Lib.hid (And.intro (hu.below hb0) (And.intro (hk.below hb0) (tabT_below hT (Nat.le_refl _) hb0)))
  unfold tyA
  go_enter Tryd.func8, Tryd.ntmps8
  obtain ⟨X0, hX0⟩ : ∃ X, w.alloc (.cells #[.int .i64 t.k, .int .i64 t.n, .string t.s, u] 61) = X := ⟨_, rfl⟩
  rw [hX0] at hb0 hz0 HH HU HBX
  have HB0 := Lib.hid hb0
  have HX0 := Lib.hid hX0
  clear hv hrng hW hos hN1 hq hp hnow hrb1 hrb2 ho0 ho1 ht0 ht1 hu hk hT hb0 hX0
  go_wp2_with fail
  rw [HX0.out]
  refine (HH.out).mono ?_
  rintro e w1 ⟨a1, c1, rfl, ho1, hb1⟩
  have HB1 := Lib.hid hb1
  have HO1 := Lib.hid ho1
  have HMD := Lib.hid (made_any (c := c1) ho1 HRN.out)
  clear hb1 ho1
  go_wp2_with fail
  refine (HMD.out).mono ?_
  rintro e w2 ⟨rfl, R2, m2⟩
  have hpn : ((some (⟨w1.heap.size, 0, none⟩ : Addr)) == none) = false := rfl
  rw [HNW.out] at m2
  have HM2 := Lib.hid m2
  have HO2 := Lib.hid (HO1.out.below m2.fr)
  have HB2 := Lib.hid (HB1.out.trans (m2.fr.mono HB1.out.size))
  obtain ⟨v0, v1, v2, v3⟩ := res4 ((HB2.out.block _ hz0).trans HBX.out)
  clear m2 HMD
  have hfw := few_any (c := cm) (HU.out.2.1.below HB2.out) t u (HU.out.1.below HB2.out)
  unfold tyA at hfw
  cases hfb : fewB t ms with
  | false =>
    rw [hfb] at hfw
    have HFW := Lib.hid hfw
    clear hfw hfb
    go_wp2_with fail
    refine HFW.out.mono ?_
    rintro e w3 ⟨rfl, hb3⟩
    have HB3 := Lib.hid (HB2.out.trans (hb3.mono HB2.out.size))
    clear hb3 v0 v1 v2 v3
    go_wp2_with fail
    refine (HK.out _).mono ?_
    rintro e w9 ⟨rfl, hb9⟩
    have HB9 := Lib.hid (HB0.out.trans ((HB3.out.trans (hb9.mono HB3.out.size)).mono HB0.out.size))
    clear hb9
    go_wp2_with fail
    go_ret
    exact ⟨rfl, HB9.out⟩
  | true =>
    rw [hfb] at hfw
    have HFW := Lib.hid hfw
    have HFM := Lib.hid (few_mem hfb)
    clear hfw hfb
    go_wp2_with fail
    refine HFW.out.mono ?_
    rintro e w3 ⟨rfl, hb3⟩
    have HB3 := Lib.hid (HB2.out.trans (hb3.mono HB2.out.size))
    have HO3 := Lib.hid (HO2.out.below hb3)
    have HMM := Lib.hid (fun Y (hY : Below w3.heap.size w3 Y) => HM2.out.m.below (hb3.trans (hY.mono hb3.size)))
    have HSM := Lib.hid (fun k (hk : k ∈ ms) => (HFM.out k hk))
    clear hb3 v0 v1 v2 v3
    obtain ⟨T, hT⟩ : ∃ T, ansT (500 : Int).toNat (sameN (lookS now 0 W) q p (500 : Int).toNat) = T := ⟨_, rfl⟩
    obtain ⟨E1, E2, E3⟩ := T
    have hg1 := same_any5 (HMM.out w3 (Below.refl _ _)) HM2.out.z q p hq64 hp64 (500 : Int) (by omega) (by omega)
    unfold SameTo at hg1
    rw [hT] at hg1
    have HG1 := Lib.hid hg1
    have HT := Lib.hid hT
    clear hg1 hT
    go_wp2_with fail
    refine (HRT1.out w3 a1 c1 HO3.out).mono ?_
    rintro e w4 ⟨rfl, hw4⟩
    subst w4
    go_wp2_with fail
    refine (HRT2.out w3 a1 c1 HO3.out).mono ?_
    rintro e w4 ⟨rfl, hw4⟩
    subst w4
    go_wp2_with fail
    refine (HG1.out).mono ?_
    rintro e w4 ⟨rfl, hb4⟩
    have HB4 := Lib.hid (HB3.out.trans (hb4.mono HB3.out.size))
    have HMM4 := Lib.hid (fun Y (hY : Below w4.heap.size w4 Y) => HMM.out Y (hb4.trans (hY.mono hb4.size)))
    have hs4 : Sc w4 w1.heap.size W 0 now [] R2 am Nm ms := ⟨HMM4.out w4 (Below.refl _ _), HM2.out.z, HU.out.2.1.below HB4.out, tabT_below HU.out.2.2 (Nat.le_refl _) HB4.out, fun k hk => (HSM.out k hk).1, fun k hk => (HSM.out k hk).2⟩
    have hsh := show_any hs4 cm (cons_all hs4 cm) q hq64 t u (HU.out.1.below HB4.out)
    unfold showS tyA at hsh
    obtain ⟨r, hr⟩ : ∃ r, (showF (LN now 0 W) (TN now 0 W) ms 30 q t).1 = r := ⟨_, rfl⟩
    rw [hr] at hsh
    obtain ⟨v0, v1, v2, v3⟩ := res4 ((HB4.out.block _ hz0).trans HBX.out)
    have HSH := Lib.hid hsh
    have HRR := Lib.hid hr
    clear hb4 hs4 hsh hr
    obtain ⟨SH, hSH⟩ : ∃ SH, bst (cutS r) = SH := ⟨_, rfl⟩
    rw [hSH] at HSH
    have HSHE := Lib.hid hSH
    clear hSH
    go_wp2_with fail
    refine HSH.out.mono ?_
    rintro e w5 ⟨rfl, hb5⟩
    have HB5 := Lib.hid (HB4.out.trans (hb5.mono HB4.out.size))
    have hb5a := below_one w5 (.cells #[.int .u64 (q : Int), .int .u64 (p : Int)] 33)
    have HB5a := Lib.hid (HB5.out.trans (hb5a.mono HB5.out.size))
    have hm5 := HMM4.out _ (hb5.trans (hb5a.mono hb5.size))
    have hown : ∀ i, Own w1.heap.size R2 i → i < w5.heap.size := fun i hi => Nat.lt_of_lt_of_le ((HMM4.out w4 (Below.refl _ _)).own_lt i hi) hb5.size
    have HCO := Lib.hid (collect_any (c := 2) hm5 HM2.out.z (two_words hq64 hp64) (fun g off e hi => by injection e with e; injection e with e1; have := hown g hi; omega) (by omega))
    clear hb5 hb5a hm5 hown v0 v1 v2 v3
    go_wp2_with fail
    refine HCO.out.mono ?_
    rintro e w6 (⟨hr6, rfl, hb6⟩ | ⟨met, v6, R6, hr6, rfl, x6, ho6, hg6⟩)
    · have HB6 := Lib.hid (HB0.out.trans ((HB5a.out.trans (hb6.mono HB5a.out.size)).mono HB0.out.size))
      clear hr6 hb6
      go_wp2_with fail
      refine (HK.out _).mono ?_
      rintro e w9 ⟨rfl, hb9⟩
      have HB9 := Lib.hid (HB6.out.trans (hb9.mono HB6.out.size))
      clear hb9
      go_wp2_with fail
      go_ret
      exact ⟨rfl, HB9.out⟩
    · skip
      have x6' : MX (w5.alloc (.cells #[.int .u64 (q : Int), .int .u64 (p : Int)] 33)) (Own w1.heap.size R2) w1.heap.size W 1 ⟨newF 0 W now met, oldK 1 W now met met⟩ w6 R6 := x6
      obtain ⟨hbl6, _⟩ := mx_below HB5a.out (fun i hi => Nat.le_trans HB1.out.size (HM2.out.ge i hi)) x6'
      have HB6 := Lib.hid hbl6
      have hok := reach_okm hr6
      have hrl := ren_lt HM2.out.z hok (two_words (w := w5) hq64 hp64).word
      obtain ⟨a6, c6, e6, hWV6, _⟩ := wordsV_own ho6 (by rw [List.length_map]) (by simp) hrl
      obtain ⟨gr, gt⟩ := reach_good hr6
      have gq := gr q (by simp)
      have gp := gr p (by simp)
      have hmm6 : Mem w6 w1.heap.size W 1 R6 (newF 0 W now met) (oldK 1 W now met met) := x6'.m
      have hz6 : WF W 1 (newF 0 W now met) (oldK 1 W now met met) := x6'.z
      have hsm := sameN_ren HM2.out.z hok gt (500 : Int).toNat q p gq gp
      have hsf := showF_ren HM2.out.z hok gt ms 30 q gq t
      obtain ⟨y, hy⟩ : ∃ y, renW 0 W now met q = y := ⟨_, rfl⟩
      obtain ⟨x, hx⟩ : ∃ x, renW 0 W now met p = x := ⟨_, rfl⟩
      have hy64 : y < 18446744073709551616 := by rw [← hy]; exact renW_lt HM2.out.z hok hq64
      have hx64 : x < 18446744073709551616 := by rw [← hx]; exact renW_lt HM2.out.z hok hp64
      rw [hy, hx] at hsm
      rw [hy] at hsf
      have hWV6 : WordsV w6 a6 2 [y, x] := by rw [← hy, ← hx]; exact hWV6
      obtain ⟨g, off, rfl, c0, c1'⟩ := words_two hWV6
      have hs6 : Sc w6 w1.heap.size W 1 (newF 0 W now met) (oldK 1 W now met met) R6 am Nm ms := ⟨hmm6, hz6, HU.out.2.1.below hbl6, tabT_below HU.out.2.2 (Nat.le_refl _) hbl6, fun k hk => (HSM.out k hk).1, fun k hk => (HSM.out k hk).2⟩
      have HG2 := Lib.hid (fun (Y : World) (hY : Below w6.heap.size w6 Y) => show Calls Tryd.prog 30 #[.pointer (some ⟨w1.heap.size, 0, none⟩), .int .u64 (y : Int), .int .u64 (x : Int), .int .i64 500] Y (fun e w' => e = Ending.returned (.tuple #[.int .i64 E1, .int .i64 E2, .int .i64 E3]) ∧ Below w6.heap.size w6 w') from
        (same_any5 (hmm6.below hY) hz6 y x hy64 hx64 (500 : Int) (by omega) (by omega)).mono fun e w' he => by
          unfold SameTo at he
          rw [hsm, HT.out] at he
          exact ⟨he.1, hY.trans (he.2.mono hY.size)⟩)
      have hsh2 := fun (Y : World) (hY : Below w6.heap.size w6 Y) => show_any (hs6.below hY) cm (cons_all (hs6.below hY) cm) y hy64 t u ((HU.out.1.below hbl6).below hY)
      unfold showS tyA at hsh2
      rw [hsf, HRR.out, HSHE.out] at hsh2
      have HSH2 := Lib.hid (fun (Y : World) (hY : Below w6.heap.size w6 Y) => (hsh2 Y hY).mono fun e w' ⟨h1, h2⟩ => (⟨h1, hY.trans (h2.mono hY.size)⟩ : e = Ending.returned (.string SH) ∧ Below w6.heap.size w6 w'))
      obtain ⟨v0, v1, v2, v3⟩ := res4 ((hbl6.block _ hz0).trans HBX.out)
      have HC1 := Lib.hid (fun (Y : World) (hY : Below w6.heap.size w6 Y) => And.intro (below_cell hY c0) (And.intro (below_cell hY c1') hY))
      have HC2 := Lib.hid (fun (Y : World) (hY : Below w6.heap.size w6 Y) => And.intro (below_cell hY c0) (And.intro (below_cell hY v0) (And.intro (below_cell hY v1) (And.intro (below_cell hY v2) (And.intro (below_cell hY v3) hY)))))
      have HKN := Lib.hid (fun (Y : World) (hY : Below w6.heap.size w6 Y) => (HK.out Y).mono fun e w' ⟨h1, h2⟩ => (⟨h1, hY.trans (h2.mono hY.size)⟩ : e = Ending.returned (.bool true) ∧ Below w6.heap.size w6 w'))
      have hn2 : ((renW 0 W now met q :: renW 0 W now met p :: []).length) = 2 := rfl
      clear x6 x6' hbl6 hok hrl ho6 hg6 hr6 gr gt gq gp hmm6 hz6 hsm hsf hy hx hWV6 hs6 hsh2 c0 c1' v0 v1 v2 v3
      obtain ⟨tk, tn, tz, tl⟩ := t
      simp only [Ty.k, Ty.n, Ty.s] at HC2 HSH2
      go_wp2_with fail
      have hd := HC1.out w6 (Below.refl _ _)
      go_region_held3 (fun Y => Y.cell? ⟨g, off, none⟩ = some (.int .u64 (y : Int)) ∧ Y.cell? ⟨g, off + 1, none⟩ = some (.int .u64 (x : Int)) ∧ Below w6.heap.size w6 Y)
        (first | (with_reducible assumption) | (with_reducible exact HC1.out _ (Below.drew (Below.refl _ _))) | (with_reducible exact HC1.out _ (by with_reducible assumption)))
        (first | (go_at_call 30; (with_reducible refine (HG2.out _ (pbM3 (by with_reducible assumption))).mono ?_); rintro e w7 ⟨rfl, hw7⟩))
      clear hd
      have HC3 := Lib.hid (fun (Y : World) (hY : Below w7.heap.size w7 Y) => HC2.out Y (hw7.trans (hY.mono hw7.size)))
      have hd := HC2.out w7 hw7
      go_wp2_with fail
      go_region_held3 (fun Y => Y.cell? ⟨g, off, none⟩ = some (.int .u64 (y : Int)) ∧ Y.cell? ⟨w.heap.size, 0, none⟩ = some (.int .i64 tk) ∧ Y.cell? ⟨w.heap.size, 1, none⟩ = some (.int .i64 tn) ∧ Y.cell? ⟨w.heap.size, 2, none⟩ = some (.string tz) ∧ Y.cell? ⟨w.heap.size, 3, none⟩ = some u ∧ Below w6.heap.size w6 Y)
        (first | (with_reducible assumption) | (with_reducible exact HC2.out _ (Below.drew hw7)) | (with_reducible exact HC2.out _ (by with_reducible assumption)))
        (first | (go_at_call 33; (with_reducible refine (HSH2.out _ (pbM6 (by with_reducible assumption))).mono ?_); rintro e w8 ⟨rfl, hw8⟩) | (go_at_call 13; (with_reducible refine (HKN.out _ (pbM6 (by with_reducible assumption))).mono ?_); rintro e w9 ⟨rfl, hw9⟩))
      have HB9 := Lib.hid (HB0.out.trans ((HB6.out.trans (hw9.mono HB6.out.size)).mono HB0.out.size))
      clear hd
      go_wp2_with fail
      go_ret
      exact ⟨rfl, HB9.out⟩
end Go.Proofs.YtlakfnlkiebpdaaDoor
