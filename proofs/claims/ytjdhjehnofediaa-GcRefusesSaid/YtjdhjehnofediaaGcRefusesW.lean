/- The walk of the statement GcRefuses: it returns true. Condition: the arguments read as objects, integers and a word. -/
import Derived.Test.YtjdhjehnofediaaGcRefS
import Derived.Test.YtjdhjehnofediaaGcGrow
namespace Go.Proofs.Ytjdhjehnofediaa
open Go Go.RowKit Go.Shelf
attribute [local go_sem] Oper.semAt_some
/-- the result's box -/
structure RB (w : World) (X : World) : Prop where
  r : Boxed X w.heap.size 4 (.bool false)
  base : Below w.heap.size w X
theorem RB.below {w X Y : World} (h : RB w X) (hb : Below X.heap.size X Y) : RB w Y := ⟨(hb.block _ h.r.lt).trans h.r, h.base.trans (hb.mono h.base.size)⟩
theorem reach_bad {now : List Ob} {h W : Nat} {ns : List Nat} {n : Nat} (h1 : n % 2 ≠ 1) (h2 : objOf now h W n = none) : reach now h W (ns ++ [n]) = none := by
  unfold reach
  rw [meetL_app]
  cases meetL now h W [] ns with
  | none => rfl
  | some m =>
    show (meetL now h W m [n]).bind _ = none
    unfold meetL
    rw [meetS_bad h1 h2]
    rfl
set_option maxRecDepth 100000 in
set_option maxHeartbeats 8000000 in
theorem gcRefuses_walk {w : World} {a : Option Addr} {N c : Nat} {rs : List O4} {v2 : Value} {zs : List Int} (hv : ArgV w a N rs) (hz : IntsV w v2 zs) (bad : Nat) (hbad : bad < 18446744073709551616) :
    Calls Try.prog 10 #[.slice a N c, v2, .int .u64 (bad : Int)] w fun e w' => e = .returned (.bool true) ∧ Below w.heap.size w w' := by
  have hnf : ∀ (p : Nat) (W : World), (binOp BinOp.eql 48 (Value.func (Fn.func 80) #[] #[Value.pointer (some ⟨p, 0, none⟩)]) Value.nilFunc).run Try.prog W = .ok (.bool false) W := fun _ _ => by kernel_rfl
  obtain ⟨i0, hi, hz0, hz1, hz2⟩ := info_parts infoU64
  have hrng := hv.rng
  obtain ⟨a2, N2, c2, rfl, hrv⟩ := roots_of hz
  have hzl := hrv.len
  have bR0 := Boxed.new w 4 (.bool false)
  have hB0 : Below w.heap.size w (w.alloc (.cells #[.bool false] 4)) := (Below.refl _ w).alloc (Nat.le_refl _) _
  have HH := Lib.hid (heap_any (c := c) (hv.below hB0))
  have HRV := Lib.hid hrv
  have HRB0 := Lib.hid (RB.mk bR0 hB0)
  have huh := used_heap hrng
  have hWb := heapW_bd hrng
  have HRN := Lib.hid (heapR hrng)
  obtain ⟨W, hW⟩ : ∃ W, heapW rs = W := ⟨_, rfl⟩
  obtain ⟨os, hos⟩ : ∃ os, heapO rs = os := ⟨_, rfl⟩
  rw [hW, hos] at HH HRN
  rw [hW, hos] at huh
  rw [hW] at hWb
  obtain ⟨N1, hN1⟩ : ∃ N1, os.length = N1 := ⟨_, rfl⟩
  rw [hN1] at HH
  clear hv hz hrv hrng hW hos hN1 bR0 hB0
  refine (callsIn_wide (n := 5)).1 ?_
  refine callsIn_of_wp_marks Try.func10 rfl trivial ?_ rfl
  simp only [Try.ntmps10, List.size_toArray, List.length_cons, List.length_nil, Nat.reduceAdd, Nat.reduceSub, Array.replicate_succ, Array.replicate_zero, List.push_toArray, List.append_toArray, List.nil_append, List.cons_append]
  gi_wp2_with fail
  refine ⟨trivial, ?_⟩
  refine (callsIn_wide.2 HH.out).mono ?_
  rintro e w1 ⟨a1, c1, rfl, ho1, hb1⟩
  have HRB1 := Lib.hid (HRB0.out.below hb1)
  have HO1 := Lib.hid ho1
  have HMD := Lib.hid (made_any (c := c1) HO1.out HRN.out)
  clear ho1 hb1 HH
  gi_wp2_with fail
  refine ⟨trivial, ?_⟩
  refine (callsIn_wide.2 HMD.out).mono ?_
  rintro e w2 ⟨rfl, R2, m2⟩
  have hpn : ((some (⟨w1.heap.size, 0, none⟩ : Addr)) == none) = false := rfl
  obtain ⟨now, hnow⟩ : ∃ now, heapObs os = now := ⟨_, rfl⟩
  rw [hnow] at m2 huh
  have HM2 := Lib.hid m2
  have HRB2 := Lib.hid (HRB1.out.below m2.fr)
  have HOX2 := Lib.hid (HO1.out.below m2.fr)
  have HWD := Lib.hid (words_root (c := c1) (c2 := c2) HOX2.out (HRV.out.below HRB2.out.base))
  have HNOW := Lib.hid hnow
  clear m2 HMD hnow
  gi_wp2_with fail
  refine ⟨trivial, ?_⟩
  refine (callsIn_wide.2 HWD.out).mono ?_
  rintro e w3 ⟨v3, rfl, hown3, hb3⟩
  obtain ⟨ns, hns⟩ : ∃ ns, rootsN os zs (min N2 50) = ns := ⟨_, rfl⟩
  have hnl : ns.length = min N2 50 := by rw [← hns]; exact rootsN_len' hzl
  have hnw : ∀ x ∈ ns, x < 18446744073709551616 := by rw [← hns]; exact rootsN_lt _ _ _
  rw [hns] at hown3
  obtain ⟨M, hM⟩ : ∃ M, min N2 50 = M := ⟨_, rfl⟩
  have hM50 : M ≤ 50 := by omega
  rw [hM] at hown3 hnl
  obtain ⟨a3, c3, rfl, hc31, hc32⟩ := own_shape5 (own_mono hown3 (Nat.zero_le _))
  have HO3 := Lib.hid hown3
  have HRB3 := Lib.hid (HRB2.out.below hb3)
  have HM3 := Lib.hid (HM2.out.m.below hb3)
  have HZ := Lib.hid HM2.out.z
  have HB3 := Lib.hid hb3
  have HNL := Lib.hid (show (ns ++ [bad]).length = M + 1 from by rw [List.length_append, hnl]; rfl)
  have HNW := Lib.hid (show ∀ x ∈ ns ++ [bad], x < 18446744073709551616 from fun x hx => by
    rcases List.mem_append.1 hx with q | q
    · exact hnw x q
    · rw [List.mem_singleton.1 q]; exact hbad)
  clear hown3 hb3 hns hM hnl hnw HWD hzl
  gi_wp2_with (gi_at_builtin; refine wpListIn_append_own_at _ rfl _ _ 32 rfl w2.heap.size 56 i0 (.int .u64 0) 1 8 Try.underlying32 hi hz0 hz1 hz2 rfl (by decide) (.slice a3 M c3) _ _ rfl (HO3.out.alloc _) ⟨w3.heap.size, 0, none⟩ 1 1 [.int .u64 (bad : Int)] rfl rfl (cell_one_new _ _ _) (by simp [Value.oneCell']) (by unfold maxLen; omega) (by omega) (by simp; have := HB3.out.size; omega) ?_; intro v4 w4 hown4 hgrow4 _ hblk4; obtain ⟨g4, c4, rfl⟩ := ownsRow_succ hown4; rw [u64s_snoc] at hown4; have HO4 := Lib.hid hown4; have HF4 := Lib.hid (Fr.of_grown (v := .slice a3 M c3) hgrow4); clear hown4 hgrow4 hblk4)
  have hap4 : ∀ i, (Value.slice a3 M c3).ownBlock = some i → w2.heap.size ≤ i := fun i hi => (HO3.out.lt i hi).1
  have hb34 : Below w2.heap.size w3 w4 := HF4.out.below HB3.out.size hap4
  have hb24 : Below w2.heap.size w2 w4 := HB3.out.trans hb34
  have HRB4 := Lib.hid (HRB2.out.below hb24)
  have hm4 : Mem w4 w1.heap.size W 0 R2 now [] := HM2.out.m.below hb24
  obtain ⟨a4, k4, e4, hv4, _⟩ := wordsV_own HO4.out HNL.out (by omega) HNW.out
  injection e4 with e5 _ e6
  subst e5 e6
  have HV4 := Lib.hid hv4
  have HM4 := Lib.hid hm4
  have HOX4 := Lib.hid (HOX2.out.below hb24)
  have HG4 := Lib.hid (show w2.heap.size ≤ g4 from (HO4.out.lt g4 rfl).1)
  have HB24 := Lib.hid hb24
  have hISb := refisint_any (bad : Int) w4 (by omega) (by omega)
  have hdone : ∀ (wk : World), Below w4.heap.size w4 wk → wk.cell? ⟨w.heap.size, 0, none⟩ = some (.bool false) ∧ wk.frozen? ⟨w.heap.size, 0, none⟩ = false ∧ (wk.setCell ⟨w.heap.size, 0, none⟩ (.bool true)).cell? ⟨w.heap.size, 0, none⟩ = some (.bool true) ∧ Below w.heap.size w (wk.setCell ⟨w.heap.size, 0, none⟩ (.bool true)) := fun wk hb => by
    have q := HRB4.out.below hb
    exact ⟨q.r.cell, q.r.frozen, (q.r.set (.bool true)).cell, q.base.setCell (p := ⟨w.heap.size, 0, none⟩) (Nat.le_refl _) _⟩
  have HDN := Lib.hid hdone
  clear hap4 hb34 hb24 hm4 hv4 hdone
  by_cases hodd : bad % 2 = 1
  · have HIS := Lib.hid (show Calls _ _ _ _ (fun e w' => e = .returned (.bool true) ∧ w' = w4) from hISb.mono fun e w' ⟨h1, h2⟩ => ⟨by rw [h1, meetS_odd_even, decide_eq_true hodd], h2.symm⟩)
    clear hodd hISb
    gi_wp2_with fail
    refine ⟨trivial, ?_⟩
    refine (callsIn_wide.2 HIS.out).mono ?_
    rintro e w5 ⟨rfl, hw⟩
    subst w5
    gi_wp2_with fail
    refine ⟨trivial, ?_⟩
    refine (callsIn_wide.2 (known_any _)).mono ?_
    rintro e wk ⟨rfl, hbk⟩
    obtain ⟨hck, hfk, hc9, hb9⟩ := HDN.out wk hbk
    have HB9 := Lib.hid hb9
    clear hbk hb9
    gi_wp2_with fail
    refine ⟨.bool true, ?_, rfl, HB9.out⟩
    simp [results, Try.f10, go_sem, hc9]
  · have HIS := Lib.hid (show Calls _ _ _ _ (fun e w' => e = .returned (.bool false) ∧ w' = w4) from hISb.mono fun e w' ⟨h1, h2⟩ => ⟨by rw [h1, meetS_odd_even, decide_eq_false hodd], h2.symm⟩)
    have HTP := Lib.hid (show Calls _ _ _ _ (fun e w' => e = .returned (.int .i64 (toP (bad : Int))) ∧ w' = w4) from (reftoptr_any (bad : Int) w4 (by omega) (by omega)).mono fun e w' ⟨h1, h2⟩ => ⟨h1, h2.symm⟩)
    have hpb := (toP_le (bad : Int)).1
    have HODD := Lib.hid hodd
    clear hodd hISb
    gi_wp2_with fail
    refine ⟨trivial, ?_⟩
    refine (callsIn_wide.2 HIS.out).mono ?_
    rintro e w5 ⟨rfl, hw⟩
    subst w5
    gi_wp2_with fail
    refine ⟨trivial, ?_⟩
    refine (callsIn_wide.2 HTP.out).mono ?_
    rintro e w5 ⟨rfl, hw⟩
    subst w5
    cases hx : idxAt now 0 W (toP (bad : Int)) with
    | some j =>
      obtain ⟨o, ho⟩ : ∃ o, now[j]? = some o := ⟨_, List.getElem?_eq_getElem (idxAt_some hx).1⟩
      have HLK := Lib.hid (look_hit HM4.out HZ.out _ (by omega) hx ho)
      obtain ⟨A, hA⟩ : ∃ A, toP (bad : Int) = A := ⟨_, rfl⟩
      rw [hA] at HLK ⊢
      clear hx ho hA hpb
      gi_wp2_with fail
      refine ⟨trivial, ?_⟩
      refine (callsIn_wide.2 HLK.out).mono ?_
      rintro e w5 ⟨rfl, n5, hw5⟩
      have HB5 := Lib.hid (show Below w4.heap.size w4 w5 from by rw [hw5]; exact Below.drewN' (Below.refl _ _) n5)
      clear hw5
      gi_wp2_with fail
      refine ⟨trivial, ?_⟩
      refine (callsIn_wide.2 (known_any _)).mono ?_
      rintro e wk ⟨rfl, hbk⟩
      obtain ⟨hck, hfk, hc9, hb9⟩ := HDN.out wk (HB5.out.trans (hbk.mono HB5.out.size))
      have HB9 := Lib.hid hb9
      clear hbk hb9
      gi_wp2_with fail
      refine ⟨.bool true, ?_, rfl, HB9.out⟩
      simp [results, Try.f10, go_sem, hc9]
    | none =>
      have HLK := Lib.hid (look_miss HM4.out HZ.out _ (by omega) hx)
      have HR := Lib.hid (reach_bad (ns := ns) HODD.out (show objOf now 0 W bad = none from hx))
      obtain ⟨A, hA⟩ : ∃ A, toP (bad : Int) = A := ⟨_, rfl⟩
      rw [hA] at HLK ⊢
      clear hx hA hpb
      gi_wp2_with fail
      refine ⟨trivial, ?_⟩
      refine (callsIn_wide.2 HLK.out).mono ?_
      rintro e w5 ⟨rfl, n5, hw5⟩
      have hb5 : Below w4.heap.size w4 w5 := by rw [hw5]; exact Below.drewN' (Below.refl _ _) n5
      have HB5 := Lib.hid hb5
      have HM5 := Lib.hid (HM4.out.below hb5)
      have HRM := Lib.hid (rmade_any (c := c1) (HOX4.out.below hb5) HRN.out)
      rw [HNOW.out] at HRM
      clear hw5 hb5 HLK
      gi_wp2_with fail
      refine ⟨trivial, ?_⟩
      refine (callsIn_wide.2 HRM.out).mono ?_
      rintro e wa ⟨bx, vx, P, rfl, xr⟩
      obtain ⟨va, vc, rfl, _, _⟩ := own_shape5 xr.r.l1.row
      obtain ⟨PL, hPL⟩ : ∃ PL, P.length = PL := ⟨_, rfl⟩
      rw [hPL] at xr ⊢
      obtain ⟨wb, hwb⟩ : ∃ wb, wa.alloc (.cells #[.int .i64 W, .int .i64 0, .slice va PL vc, .slice none 0 0] 30) = wb := ⟨_, rfl⟩
      have hbab : Below wa.heap.size wa wb := by rw [← hwb]; exact (Below.refl _ _).alloc (Nat.le_refl _) _
      obtain ⟨rb, hrb⟩ : ∃ rb, wa.heap.size = rb := ⟨_, rfl⟩
      have htw := twin_of HM5.out HZ.out xr hbab (rb := rb) (by rw [← hwb, ← hrb]; exact heap_alloc_new wa _) (by omega)
      have hb5b : Below w5.heap.size w5 wb := xr.fr.trans (hbab.mono xr.fr.size)
      have hb4b := HB5.out.trans (hb5b.mono HB5.out.size)
      have HTW := Lib.hid htw.1
      have HB4B := Lib.hid hb4b
      have HWB := Lib.hid hwb
      have HRB := Lib.hid hrb
      have HLV := Lib.hid (live_any (c := c4) htw.1.m HZ.out (HV4.out.below hb4b))
      have hl0 : ((liveN now 0 W (ns ++ [bad]) : Nat) : Int) = 0 := by unfold liveN; rw [HR.out]; rfl
      have hc0 : checkE now 0 W (ns ++ [bad]) = 40 := by unfold checkE; rw [HR.out]
      rw [hl0, hc0] at HLV
      have HC0 := Lib.hid hc0
      clear htw hb5b hb4b xr hbab hPL hwb hrb HRM hl0 hc0
      gi_wp2_with fail
      rw [HWB.out, HRB.out]
      refine ⟨trivial, ?_⟩
      refine (callsIn_wide.2 HLV.out).mono ?_
      rintro e w6 ⟨rfl, hb6⟩
      have HT6 := Lib.hid (HTW.out.below hb6)
      have HB6 := Lib.hid (HB4B.out.trans (hb6.mono HB4B.out.size))
      have HCO := Lib.hid (collect_any (c := c4) HT6.out.m HZ.out (HV4.out.below HB6.out) (fun g off e q => by
        injection e with e
        injection e with e1 _ _
        subst e1
        have h1 := HM2.out.m.own_lt _ q
        have h2 := HG4.out
        omega) (by omega))
      clear hb6 HLV HWB HRB
      gi_wp2_with fail
      refine ⟨trivial, ?_⟩
      refine (callsIn_wide.2 HCO.out).mono ?_
      rintro e w7 (⟨_, rfl, hb7⟩ | ⟨met, _, _, hr7, _⟩)
      · have HT7 := Lib.hid (HT6.out.below hb7)
        have HB7 := Lib.hid (HB6.out.trans (hb7.mono HB6.out.size))
        have HRE := Lib.hid (reach_any (c := c4) HT7.out.m HZ.out (HV4.out.below HB7.out))
        rw [HR.out] at HRE
        clear hb7 HCO
        gi_wp2_with fail
        refine ⟨trivial, ?_⟩
        refine (callsIn_wide.2 HRE.out).mono ?_
        rintro e w8 ⟨Bs, v8, rfl, hbs, hge, hb8, hrow⟩
        have HT8 := Lib.hid (HT7.out.below hb8)
        have HB8 := Lib.hid (HB7.out.trans (hb8.mono HB7.out.size))
        have HRB8 := Lib.hid (HRB4.out.below HB8.out)
        have HBS := Lib.hid hbs
        have HROW := Lib.hid (show w8.ownsRow 0 3 1 v8 ([] : List Int).length (ints []) from own_mono hrow (Nat.zero_le _))
        have hw8 : w.heap.size < w8.heap.size := HRB8.out.r.lt
        have hBsw : w.heap.size ≠ Bs := by have := HB7.out.size; have := HRB4.out.r.lt; omega
        clear hbs hge hb8 hrow HRE
        gi_wp2_with fail
        refine wpIn_rangeFunc_ownG rfl (by omega) (gf := 80) (lb := #[.pointer (some ⟨Bs, 0, none⟩)]) rfl trivial (enters_of Try.func80 (by kernel_rfl) rfl)
          (each_stops (5 - 1) (by omega) Bs v8 [] _ HBS.out HROW.out) keepL_t keepL_b (Below.refl _ _) (fun _ => rfl)
          (fun _ W' => Boxed W' w.heap.size 4 (.bool false) ∧ Below w8.heap.size w8 W')
          (fun _ _ _ => False)
          (OwnFrom.and (Own.from (boxed_own w.heap.size 4 (fun (_ : List Nat) => .bool false)) _) (ownFrom_below (Nat.le_refl _) (Nat.le_refl _)))
          (fun _ _ _ _ _ hs _ _ => hs)
          ⟨HRB8.out.r, Below.refl _ _⟩
          ?a1 ?assign ?body ?done ?stop
        case assign =>
          intro l x W' K' hK'
          gi_wp2
          exact hK'
        case body =>
          intro l pre x W' _ hlt
          exact absurd hlt (Nat.not_lt_zero _)
        case done =>
          rintro D ys W' hD rfl ⟨hI, hB⟩ hK
          have HTD := Lib.hid (HT8.out.below hB)
          have HBD := Lib.hid (HB8.out.trans (hB.mono HB8.out.size))
          have HKD := Lib.hid hK
          have HCK := Lib.hid (check_any (c := c4) HTD.out.m HZ.out (HV4.out.below HBD.out))
          rw [HC0.out] at HCK
          have hDw : w.heap.size < D := by omega
          clear hI hB hK
          gi_wp2_with fail
          refine ⟨trivial, ?_⟩
          refine (callsIn_wide.2 HCK.out).mono ?_
          rintro e w9 ⟨rfl, hb9⟩
          have HSM := Lib.hid (gsame_any (HTD.out.below hb9))
          have HB9 := Lib.hid hb9
          clear hb9 HCK
          gi_wp2_with fail
          refine ⟨trivial, ?_⟩
          refine (callsIn_wide.2 HSM.out).mono ?_
          rintro e w10 ⟨rfl, hb10⟩
          have HB10 := Lib.hid (HB9.out.trans (hb10.mono HB9.out.size))
          clear hb10 HSM
          gi_wp2_with fail
          refine ⟨trivial, ?_⟩
          refine (callsIn_wide.2 (known_any _)).mono ?_
          rintro e wk ⟨rfl, hbk⟩
          have hb11 := HB10.out.trans (hbk.mono HB10.out.size)
          obtain ⟨hck, hfk, hc9, hb12⟩ := HDN.out wk (HBD.out.trans (hb11.mono HBD.out.size))
          have hkk : wk.heap[D]? = some (.deferred (some [])) := (hb11.block D (Array.getElem?_eq_some_iff.1 HKD.out).1).trans HKD.out
          have HKK := Lib.hid hkk
          have HB12 := Lib.hid hb12
          have HRBK := Lib.hid (HRB4.out.below (HBD.out.trans (hb11.mono HBD.out.size)))
          clear hbk hb11 hkk hb12
          gi_wp2_with fail
          have hK' : (wk.setCell ⟨w.heap.size, 0, none⟩ (.bool true)).heap[D]? = some (.deferred (some [])) := (Below.heap_setCell wk _ _ D (by show D ≠ w.heap.size; omega)).trans HKK.out
          refine ⟨by simp, .inl ⟨_, _, rfl, run_takeDeferred hK', ?_⟩⟩
          have hc10 := cell_kept hc9 (grownBy_putObj' _ D (.deferred none)) (fun r e => by cases e; exact ⟨_, hK', rfl⟩)
          refine ⟨.bool true, ?_, rfl, HB12.out.trans (belowK_b (w := w) (Nat.le_refl _) _ D _ _ (by omega) hK' rfl rfl)⟩
          simp [results, Try.f10, go_sem, hc10]
        case stop =>
          rintro D c pre W _ _ h _
          exact h.elim
      · have := HR.out
        rw [hr7] at this
        cases this
theorem gcRefuses_walkI {w : World} {a : Option Addr} {N c : Nat} {rs : List O4} {v2 : Value} {zs : List Int} (hv : ArgV w a N rs) (hz : IntsV w v2 zs) (bad : Int) (h0 : 0 ≤ bad) (h1 : bad ≤ 18446744073709551615) :
    Calls Try.prog 10 #[.slice a N c, v2, .int .u64 bad] w fun e w' => e = .returned (.bool true) ∧ Below w.heap.size w w' := by
  obtain ⟨n, rfl⟩ : ∃ n : Nat, bad = n := ⟨bad.toNat, by omega⟩
  exact gcRefuses_walk hv hz n (by omega)
end Go.Proofs.Ytjdhjehnofediaa
