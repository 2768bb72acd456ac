/- The walk of the statement GcReaches: it returns true. Condition: the arguments read as objects and integers. -/
import Derived.Test.YtjdhjehnofediaaGcRefS
import Derived.Test.YtjdhjehnofediaaGcGrow
namespace Go.Proofs.Ytjdhjehnofediaa
open Go Go.RowKit Go.Shelf
attribute [local go_sem] Oper.semAt_some
/-- the boxes: when to stop, the result -/
structure RQ (w : World) (stop : Int) (X : World) : Prop where
  s : Boxed X w.heap.size 3 (.int .i64 stop)
  r : Boxed X (w.heap.size + 1) 4 (.bool false)
  base : Below w.heap.size w X
theorem RQ.below {w X Y : World} {stop : Int} (h : RQ w stop X) (hb : Below X.heap.size X Y) : RQ w stop Y := ⟨(hb.block _ h.s.lt).trans h.s, (hb.block _ h.r.lt).trans h.r, h.base.trans (hb.mono h.base.size)⟩
theorem RQ.new (w : World) (stop : Int) : RQ w stop ((w.alloc (.cells #[.int .i64 stop] 3)).alloc (.cells #[.bool false] 4)) := by
  have h1 := Boxed.new w 3 (.int .i64 stop)
  have h2 := Boxed.new (w.alloc (.cells #[.int .i64 stop] 3)) 4 (.bool false)
  rw [World.size_alloc] at h2
  exact ⟨h1.alloc _, h2, ((Below.refl _ w).alloc (Nat.le_refl _) _).alloc (by simp) _⟩
theorem rreached_all {w : World} {h W : Nat} {now : List Ob} {ns : List Nat} {e : Ending} {w' : World} (t : RReached w h W now ns e w') : ∃ v okb, e = .returned (.tuple #[v, .bool okb]) ∧ Below w.heap.size w w' ∧ w'.ownsRow w.heap.size 3 1 v ((reach now h W ns).getD []).length (ints (metI h W now ((reach now h W ns).getD []))) ∧ ((okb = true ∧ checkE now h W ns = 0) ∨ (okb = false ∧ checkE now h W ns = 40)) ∧ Okm now ((reach now h W ns).getD []) := by
  rcases t with ⟨hr, rfl, hb⟩ | ⟨met, v, hr, rfl, hb, ho⟩
  · refine ⟨_, _, rfl, hb, ?_, .inr ⟨rfl, by unfold checkE; rw [hr]⟩, ?_⟩
    · rw [hr]; exact World.ownsRow_nil _ _ _ _
    · rw [hr]; exact okm_nil
  · refine ⟨_, _, rfl, hb, ?_, .inl ⟨rfl, by unfold checkE; rw [hr]⟩, ?_⟩
    · rw [hr]; exact ho
    · rw [hr]; exact reach_okm hr
/-- a range over a function whose body may leave the block around it: what holds behind it either way -/
theorem wpIn_range_two {F : Fence} {n : Nat} {P : Program} {α : Type} {g : Operand} {ps : Array Tmp} {assign body : Code} {Q : Exit → Act → World → Prop} {a : Act} {w : World}
    (hro : F.round = none) (h1 : 1 ≤ n) {gf : Nat} {lb : Array Value} (hg : a.eval g = .func (.func gf) #[] lb) (hFg : F.fn gf) (eg : ∀ args w, (callFunc gf args).run P w = .ok (.enter gf args) w)
    {encs : α → Array Value} {Kp : World → World → Prop} {S Sp : List α → Prop} {N : Nat} {w0 : World} (hseq : SeqStopsK F (n - 1) P gf lb encs Kp S Sp N w0)
    (hKt : ∀ {A B C : World}, Kp A B → Kp B C → Kp A C) (hKb : ∀ (W : World) (l : Nat) (o o' : Obj), w.heap.size ≤ l → W.heap[l]? = some o → o.isCells = false → o.isWalk = false → Kp W (W.putObj l o')) (hb0 : Below w0.heap.size w0 w) (hps : ∀ x, (encs x).size = ps.size)
    (id : Nat) (I : List α → World → Prop) (J : World → Prop) (hI : OwnFrom w.heap.size I) (hJ : OwnFrom w.heap.size (fun (_ : List α) W => J W)) (h0 : I [] w) (hIJ : ∀ xs W, I xs W → J W) (a₁ : α → Act)
    (hassign : ∀ (l : Nat) (x : α) (W : World) (K : Act → World → Prop), K (a₁ x) W →
      assign.wpIn (F.inRound l) (n - 1 - 1) P (Exit.then K (fun _ _ _ => False)) { tmps := (ps.zip (encs x)).foldl (fun t (p, v) => t.setIfInBounds p v) a.tmps, defers := [] } W)
    (hbody : ∀ (l : Nat) (pre : List α) (x : α) (W : World), I pre W → pre.length < N → body.wpIn (F.inRound l) (n - 1 - 1) P (ownPostG w.heap.size Kp I (fun c _ W => c = .exit id ∧ J W) (pre ++ [x]) W) (a₁ x) W)
    (hx : ∀ a W, Q .normal a W → Q (.exit id) a W)
    (hboth : ∀ (D : Nat) (W : World), w.heap.size ≤ D → J W → W.heap[D]? = some (.deferred (some [])) → Q .normal { a with defers := { target := .collected D, args := #[] } :: a.defers } W) :
    (Code.rangeFunc g ps assign body).wpIn F n P Q a w :=
  wpIn_rangeFunc_ownG hro h1 hg hFg eg hseq hKt hKb hb0 hps I (fun c _ W => c = .exit id ∧ J W) hI (fun _ xs A B row hs hg hr => ⟨hs.1, hJ xs A B row hs.2 hg hr⟩) h0 a₁ hassign hbody
    (fun D xs W h1 _ h3 h4 => hboth D W h1 (hIJ xs W h3) h4) (fun D c pre W h1 _ h3 h4 => by
      obtain ⟨rfl, hj⟩ := h3
      exact wpIn_exit (hx _ _ (hboth D W h1 hj h4)))
def MissR (pre : List Nat) : Prop := ∃ ini last, pre = ini ++ [last] ∧ last ≠ ini.length
theorem not_missR {k : Nat} (h : MissR (List.range k)) : False := by
  obtain ⟨ini, last, e, hne⟩ := h
  cases k with
  | zero => simp at e
  | succ k =>
    rw [List.range_succ] at e
    obtain ⟨e1, e2⟩ := List.append_inj' e rfl
    have hl : ini.length = k := by rw [← e1, List.length_range]
    have e3 : k = last := by simpa using e2
    exact hne (by rw [hl, e3])
/-- another number's address is another one, or none -/
theorem metI_ne {h W : Nat} {now : List Ob} {met : List Nat} (ok : Okm now met) {q x : Nat} {a : Int} (hq : (metI h W now met)[q]? = some a) (hne : x ≠ q) : a ≠ (metI h W now met).getD x 0 := by
  have hql := (List.getElem?_eq_some_iff.1 hq).1
  rw [metI_length] at hql
  obtain ⟨j, hj⟩ : ∃ j, met[q]? = some j := ⟨_, List.getElem?_eq_getElem hql⟩
  have h1 := metI_get (h := h) (W := W) (os := now) hj
  rw [hq] at h1
  rw [Option.some.inj h1]
  by_cases hx : x < met.length
  · obtain ⟨i, hi⟩ : ∃ i, met[x]? = some i := ⟨_, List.getElem?_eq_getElem hx⟩
    rw [List.getD_eq_getElem?_getD, metI_get (h := h) (W := W) (os := now) hi]
    intro e
    have h2 := adr_inj (show adr h W (start now j : Nat) = adr h W (start now i : Nat) from e)
    have h3 := start_inj now (ok.lt j (List.mem_of_getElem? hj)) (ok.lt i (List.mem_of_getElem? hi)) (by omega)
    subst h3
    exact hne ((idxOf_get ok.nd hi).symm.trans (idxOf_get ok.nd hj))
  · rw [List.getD_eq_getElem?_getD, List.getElem?_eq_none (by rw [metI_length]; omega)]
    have := adr_pos h W (start now j)
    show objA h W now j ≠ 0
    show adr h W (start now j : Nat) ≠ 0
    omega
set_option maxRecDepth 100000 in
set_option maxHeartbeats 8000000 in
theorem gcReaches_walk {w : World} {a : Option Addr} {N c : Nat} {rs : List O4} {v2 : Value} {zs : List Int} (hv : ArgV w a N rs) (hz : IntsV w v2 zs) (stop : Int) :
    Calls Try.prog 4 #[.slice a N c, v2, .int .i64 stop] w fun e w' => e = .returned (.bool true) ∧ Below w.heap.size w w' := by
  have hnf : ∀ (p : Nat) (W : World), (binOp BinOp.eql 48 (Value.func (Fn.func 80) #[] #[Value.pointer (some ⟨p, 0, none⟩)]) Value.nilFunc).run Try.prog W = .ok (.bool false) W := fun _ _ => by kernel_rfl
  have hrng := hv.rng
  obtain ⟨a2, N2, c2, rfl, hrv⟩ := roots_of hz
  have hzl := hrv.len
  have HRB0 := Lib.hid (RQ.new w stop)
  have HH := Lib.hid (heap_any (c := c) (hv.below HRB0.out.base))
  have HRV := Lib.hid hrv
  have huh := used_heap hrng
  have hWb := heapW_bd hrng
  have HRN := Lib.hid (heapR hrng)
  obtain ⟨W, hW⟩ : ∃ W, heapW rs = W := ⟨_, rfl⟩
  obtain ⟨os, hos⟩ : ∃ os, heapO rs = os := ⟨_, rfl⟩
  rw [hW, hos] at HH HRN
  rw [hW, hos] at huh
  rw [hW] at hWb
  obtain ⟨N1, hN1⟩ : ∃ N1, os.length = N1 := ⟨_, rfl⟩
  rw [hN1] at HH
  clear hv hz hrv hrng hW hos hN1
  refine (callsIn_wide (n := 5)).1 ?_
  refine callsIn_of_wp_marks Try.func4 rfl trivial ?_ rfl
  simp only [Try.ntmps4, List.size_toArray, List.length_cons, List.length_nil, Nat.reduceAdd, Nat.reduceSub, Array.replicate_succ, Array.replicate_zero, List.push_toArray, List.append_toArray, List.nil_append, List.cons_append]
  gi_wp2_with fail
  refine ⟨trivial, ?_⟩
  refine (callsIn_wide.2 HH.out).mono ?_
  rintro e w1 ⟨a1, c1, rfl, ho1, hb1⟩
  have HRB1 := Lib.hid (HRB0.out.below hb1)
  have HO1 := Lib.hid ho1
  have HMD := Lib.hid (made_any (c := c1) HO1.out HRN.out)
  clear ho1 hb1 HH
  gi_wp2_with fail
  refine ⟨trivial, ?_⟩
  refine (callsIn_wide.2 HMD.out).mono ?_
  rintro e w2 ⟨rfl, R2, m2⟩
  have hpn : ((some (⟨w1.heap.size, 0, none⟩ : Addr)) == none) = false := rfl
  obtain ⟨now, hnow⟩ : ∃ now, heapObs os = now := ⟨_, rfl⟩
  rw [hnow] at m2 huh
  have HM2 := Lib.hid m2
  have HRB2 := Lib.hid (HRB1.out.below m2.fr)
  have HOX2 := Lib.hid (HO1.out.below m2.fr)
  have HRM := Lib.hid (rmade_any (c := c1) HOX2.out HRN.out)
  rw [hnow] at HRM
  clear m2 HMD hnow
  gi_wp2_with fail
  refine ⟨trivial, ?_⟩
  refine (callsIn_wide.2 HRM.out).mono ?_
  rintro e wa ⟨bx, vx, P, rfl, xr⟩
  obtain ⟨va, vc, rfl, _, _⟩ := own_shape5 xr.r.l1.row
  obtain ⟨PL, hPL⟩ : ∃ PL, P.length = PL := ⟨_, rfl⟩
  rw [hPL] at xr ⊢
  obtain ⟨wb, hwb⟩ : ∃ wb, wa.alloc (.cells #[.int .i64 W, .int .i64 0, .slice va PL vc, .slice none 0 0] 30) = wb := ⟨_, rfl⟩
  have hbab : Below wa.heap.size wa wb := by rw [← hwb]; exact (Below.refl _ _).alloc (Nat.le_refl _) _
  obtain ⟨rb, hrb⟩ : ∃ rb, wa.heap.size = rb := ⟨_, rfl⟩
  have htw := twin_of HM2.out.m HM2.out.z xr hbab (rb := rb) (by rw [← hwb, ← hrb]; exact heap_alloc_new wa _) (by omega)
  have hb2b : Below w2.heap.size w2 wb := xr.fr.trans (hbab.mono xr.fr.size)
  have HTW := Lib.hid htw.1
  have HZ := Lib.hid HM2.out.z
  have HRBB := Lib.hid (HRB2.out.below hb2b)
  have HWD := Lib.hid (words_root (c := c1) (c2 := c2) (HOX2.out.below hb2b) (HRV.out.below HRBB.out.base))
  have HWB := Lib.hid hwb
  have HRB := Lib.hid hrb
  clear htw hb2b xr hbab hPL hwb hrb HRM
  gi_wp2_with fail
  rw [HWB.out, HRB.out]
  clear HWB HRB
  refine ⟨trivial, ?_⟩
  refine (callsIn_wide.2 HWD.out).mono ?_
  rintro e w3 ⟨v3, rfl, hown3, hb3⟩
  obtain ⟨ns, hns⟩ : ∃ ns, rootsN os zs (min N2 50) = ns := ⟨_, rfl⟩
  have hnl : ns.length = min N2 50 := by rw [← hns]; exact rootsN_len' hzl
  have hnw : ∀ x ∈ ns, x < 18446744073709551616 := by rw [← hns]; exact rootsN_lt _ _ _
  rw [hns] at hown3
  obtain ⟨M, hM⟩ : ∃ M, min N2 50 = M := ⟨_, rfl⟩
  have hM50 : M ≤ 50 := by omega
  rw [hM] at hown3 hnl
  have HNO := Lib.hid hown3
  obtain ⟨a3, c3, rfl, hWV, _⟩ := wordsV_own hown3 hnl (by omega) hnw
  have HT3 := Lib.hid (HTW.out.below hb3)
  have HRB3 := Lib.hid (HRBB.out.below hb3)
  have HV3 := Lib.hid hWV
  have HRR := Lib.hid (rreach_any HT3.out.rt hWV (row_no hown3) (show M ≤ 100000 by omega))
  clear hown3 hb3 hns hM hnl hnw hWV HWD hzl HNO
  gi_wp2_with fail
  refine ⟨trivial, ?_⟩
  refine (callsIn_wide.2 HRR.out).mono ?_
  intro e w4 hrr
  obtain ⟨v4, okb, rfl, hb4, hrow4, hok4, hokm⟩ := rreached_all hrr
  obtain ⟨xs, hxs⟩ : ∃ xs, metI 0 W now ((reach now 0 W ns).getD []) = xs := ⟨_, rfl⟩
  have hxl : ((reach now 0 W ns).getD []).length = xs.length := by rw [← hxs, metI_length]
  have hxb : xs.length ≤ 65536 := by
    have h1 := hokm.len
    have h2 := P_length HT3.out.e1
    have h3 := Nat.le_trans (length_le_usedP P) HT3.out.rz.u1
    omega
  have HMN := Lib.hid (fun (q x : Nat) (a : Int) (h1 : xs[q]? = some a) (h2 : x ≠ q) => show a ≠ xs.getD x 0 from by
    rw [← hxs] at h1 ⊢
    exact metI_ne hokm h1 h2)
  rw [hxs, hxl] at hrow4
  obtain ⟨va4, vc4, rfl, hvc1, hvc2⟩ := own_shape5 (own_mono hrow4 (Nat.zero_le _))
  have HT4 := Lib.hid (HT3.out.below hb4)
  have HRB4 := Lib.hid (HRB3.out.below hb4)
  have HV4 := Lib.hid (HV3.out.below hb4)
  have HROW4 := Lib.hid hrow4
  obtain ⟨wt, hwt⟩ : ∃ wt, w4.heap.size = wt := ⟨_, rfl⟩
  obtain ⟨w5, hw5⟩ : ∃ w5, w4.alloc (.cells #[.slice va4 xs.length vc4] 23) = w5 := ⟨_, rfl⟩
  have hb5 : Below w4.heap.size w4 w5 := by rw [← hw5]; exact (Below.refl _ _).alloc (Nat.le_refl _) _
  have HWT5 := Lib.hid (show Boxed w5 wt 23 (.slice va4 xs.length vc4) from by rw [← hw5, ← hwt]; exact Boxed.new w4 23 _)
  have HT5 := Lib.hid (HT4.out.below hb5)
  have HRB5 := Lib.hid (HRB4.out.below hb5)
  have HV5 := Lib.hid (HV4.out.below hb5)
  have HROW5 := Lib.hid ((Fr.of_below (O := fun _ => False) hb5).own HROW4.out (fun _ _ => id))
  have HW5 := Lib.hid hw5
  have HWTE := Lib.hid hwt
  have HCK := Lib.hid (check_any (c := c3) HT5.out.m HZ.out HV5.out)
  obtain ⟨CE, hCE⟩ : ∃ CE, checkE now 0 W ns = CE := ⟨_, rfl⟩
  rw [hCE] at HCK hok4
  have HXS := Lib.hid hxs
  have HXL := Lib.hid hxl
  have HOK4 := Lib.hid hok4
  clear hrr hb4 hrow4 hok4 hokm hxs hxl hw5 hwt hb5 hCE HRR
  gi_wp2_with fail
  rw [HW5.out, HWTE.out]
  clear HW5 HWTE
  refine ⟨trivial, ?_⟩
  refine (callsIn_wide.2 HCK.out).mono ?_
  rintro e w6 ⟨rfl, hb6⟩
  have HT6 := Lib.hid (HT5.out.below hb6)
  have HRB6 := Lib.hid (HRB5.out.below hb6)
  have HV6 := Lib.hid (HV5.out.below hb6)
  have HROW6 := Lib.hid ((Fr.of_below (O := fun _ => False) hb6).own HROW5.out (fun _ _ => id))
  have HWT6 := Lib.hid (show Boxed w6 wt 23 (.slice va4 xs.length vc4) from (hb6.block _ HWT5.out.lt).trans HWT5.out)
  have HRE := Lib.hid (reach_any (c := c3) HT6.out.m HZ.out HV6.out)
  rw [HXS.out, HXL.out] at HRE
  clear hb6 HCK
  gi_wp2_with fail
  refine ⟨trivial, ?_⟩
  refine (callsIn_wide.2 HRE.out).mono ?_
  rintro e w7 ⟨Bs, v7, rfl, hbs, hge, hb7, hrow⟩
  have HT7 := Lib.hid (HT6.out.below hb7)
  have HRB7 := Lib.hid (HRB6.out.below hb7)
  have HROW7 := Lib.hid ((Fr.of_below (O := fun _ => False) hb7).own HROW6.out (fun _ _ => id))
  have HWT7 := Lib.hid (show Boxed w7 wt 23 (.slice va4 xs.length vc4) from (hb7.block _ HWT6.out.lt).trans HWT6.out)
  have HBS7 := Lib.hid hbs
  have HSR7 := Lib.hid (own_mono hrow (Nat.zero_le _))
  have hBsl : Bs < w7.heap.size := hbs.lt
  have hwr : w.heap.size + 1 < w7.heap.size := HRB7.out.r.lt
  clear hbs hge hb7 hrow HRE
  rcases HOK4.out with ⟨rfl, rfl⟩ | ⟨rfl, rfl⟩
  · clear HOK4
    gi_wp2_with fail
    have bn8 := Boxed.new w7 3 (.int .i64 0)
    obtain ⟨w8, hw8⟩ : ∃ w8, w7.alloc (.cells #[.int .i64 0] 3) = w8 := ⟨_, rfl⟩
    have hb8 : Below w7.heap.size w7 w8 := by rw [← hw8]; exact (Below.refl _ _).alloc (Nat.le_refl _) _
    have hs8 : w7.heap.size < w8.heap.size := by rw [← hw8]; simp
    rw [hw8] at bn8 ⊢
    have hbs8 : Boxed w8 Bs 23 v7 := (hb8.block _ hBsl).trans HBS7.out
    have hsr8 : w8.ownsRow 0 3 1 v7 xs.length (ints xs) := (Fr.of_below (O := fun _ => False) hb8).own HSR7.out (fun _ _ => id)
    have HV7 := Lib.hid (fun (g : Nat) (hg : v7.ownBlock = some g) => (HSR7.out.lt g hg).2)
    clear hw8
    refine wpIn_range_two rfl (by omega) (gf := 80) (lb := #[.pointer (some ⟨Bs, 0, none⟩)]) rfl trivial (enters_of Try.func80 (by kernel_rfl) rfl)
      (each_stops (5 - 1) (by omega) Bs v7 xs _ hbs8 hsr8) keepL_t keepL_b (Below.refl _ _) (fun _ => rfl) 0
      (fun pre W' => Boxed W' w7.heap.size 3 (.int .i64 (pre.length : Int)) ∧ Below w7.heap.size w7 W')
      (fun W' => Below w7.heap.size w7 W')
      (OwnFrom.and (Own.from (boxed_own w7.heap.size 3 (fun (pre : List Nat) => .int .i64 (pre.length : Int))) _) (ownFrom_below (Nat.le_refl _) (by omega)))
      (ownFrom_below (Nat.le_refl _) (by omega))
      ⟨bn8, hb8⟩ (fun _ _ h => h.2)
      ?a1X ?assignX ?bodyX ?hxX ?bothX
    case assignX =>
      intro l x W' K' hK'
      gi_wp2
      exact hK'
    case bodyX =>
      rintro l pre x W' ⟨hn, hB⟩ hlt
      have hci := hn.cell
      have hfi := hn.frozen
      have hrq := HRB7.out.below hB
      have hcs := hrq.s.cell
      have HN := Lib.hid hn
      have HB := Lib.hid hB
      obtain ⟨q, hq⟩ : ∃ q, pre.length = q := ⟨_, rfl⟩
      rw [hq] at hci hlt
      have HQ := Lib.hid hq
      have hq2 : (q : Int) ≤ 65536 := by omega
      have hq0 : (0 : Int) ≤ q := by omega
      have hbn : w.heap.size ≠ w7.heap.size := by omega
      clear hn hB hq hrq
      by_cases hst : stop ≤ (q : Int) + 1
      · have hd1 : decide (stop ≤ (q : Int) + 1) = true := decide_eq_true hst
        clear hst
        gi_wp2_with fail
        exact ⟨(KeepsOthers.setCell _ _ _).from _, rfl, HB.out.setCell (p := ⟨w7.heap.size, 0, none⟩) (Nat.le_refl _) _⟩
      · have hd1 : decide (stop ≤ (q : Int) + 1) = false := decide_eq_false hst
        clear hst
        gi_wp2_with fail
        have hset := HN.out.set (.int .i64 ((q : Int) + 1))
        refine ⟨(KeepsOthers.setCell _ _ _).from _, fun hr => ((Fr.refl (· = w7.heap.size) W').setCell (p := ⟨w7.heap.size, 0, none⟩) (.inl rfl) _).own hr (fun g hg e => by have := HV7.out g hg; omega), ?_, HB.out.setCell (p := ⟨w7.heap.size, 0, none⟩) (Nat.le_refl _) _⟩
        rw [List.length_append, List.length_singleton, HQ.out, show ((q + 1 : Nat) : Int) = (q : Int) + 1 by omega]
        exact hset
    case hxX => exact fun _ _ h => h
    case bothX =>
      intro D W' hD hB hK
      have HB := Lib.hid hB
      have HKD := Lib.hid hK
      have hDl : D < W'.heap.size := (Array.getElem?_eq_some_iff.1 hK).1
      have hszW := hB.size
      clear hB hK bn8 hb8 hbs8 hsr8
      gi_wp2_with fail
      have bi9 := Boxed.new W' 3 (.int .i64 0)
      obtain ⟨w9, hw9⟩ : ∃ w9, W'.alloc (.cells #[.int .i64 0] 3) = w9 := ⟨_, rfl⟩
      have hb9 : Below W'.heap.size W' w9 := by rw [← hw9]; exact (Below.refl _ _).alloc (Nat.le_refl _) _
      have hs9 : W'.heap.size < w9.heap.size := by rw [← hw9]; simp
      rw [hw9] at bi9 ⊢
      have hb79 : Below w7.heap.size w7 w9 := HB.out.trans (hb9.mono HB.out.size)
      have hbs9 : Boxed w9 Bs 23 v7 := (hb79.block _ hBsl).trans HBS7.out
      have hsr9 : w9.ownsRow 0 3 1 v7 xs.length (ints xs) := (Fr.of_below (O := fun _ => False) hb79).own HSR7.out (fun _ _ => id)
      clear hw9
      refine wpIn_rangeFunc_ownG rfl (by omega) (gf := 80) (lb := #[.pointer (some ⟨Bs, 0, none⟩)]) rfl trivial (enters_of Try.func80 (by kernel_rfl) rfl)
        (each_stops (5 - 1) (by omega) Bs v7 xs _ hbs9 hsr9) keepL_t keepL_b (Below.refl _ _) (fun _ => rfl)
        (fun pre X => Boxed X W'.heap.size 3 (.int .i64 (pre.length : Int)) ∧ Below W'.heap.size W' X)
        (fun c pre _ => c = .ret ∧ MissR pre)
        (OwnFrom.and (Own.from (boxed_own W'.heap.size 3 (fun (pre : List Nat) => .int .i64 (pre.length : Int))) _) (ownFrom_below (Nat.le_refl _) (by omega)))
        (fun _ _ _ _ _ hs _ _ => hs)
        ⟨bi9, hb9⟩
        ?b1X ?assignBX ?bodyBX ?doneBX ?stopBX
      case assignBX =>
        intro l x X K' hK'
        gi_wp2
        exact hK'
      case bodyBX =>
        rintro l pre x X ⟨hn, hX⟩ hlt
        have hb7X : Below w7.heap.size w7 X := HB.out.trans (hX.mono HB.out.size)
        have hci := hn.cell
        have hfi := hn.frozen
        have hrq := HRB7.out.below hb7X
        have hcr := hrq.r.cell
        have hfr := hrq.r.frozen
        have hcw := (show Boxed X wt 23 (.slice va4 xs.length vc4) from (hb7X.block _ HWT7.out.lt).trans HWT7.out).cell
        have hrow := (Fr.of_below (O := fun _ => False) hb7X).own HROW7.out (fun _ _ => id)
        obtain ⟨q, hq⟩ : ∃ q, pre.length = q := ⟨_, rfl⟩
        rw [hq] at hci hlt
        obtain ⟨e, he⟩ : ∃ e, xs[q]? = some e := ⟨_, List.getElem?_eq_getElem hlt⟩
        obtain ⟨g2, c2', hu2, _, _, _, hce⟩ := int_at hrow hlt he
        injection hu2 with e1 e2 e3
        subst e1
        have HN := Lib.hid hn
        have HX := Lib.hid hX
        have HQ := Lib.hid hq
        obtain ⟨L, hL⟩ : ∃ L, xs.length = L := ⟨_, rfl⟩
        rw [hL] at hcw hlt hxb hvc1
        have hq1 : (q : Int) < L := by omega
        have hq0 : (0 : Int) ≤ q := by omega
        have hge1 : decide (L ≤ q) = false := decide_eq_false (by omega)
        have hge2 : decide ((L : Int) ≤ (q : Int)) = false := decide_eq_false (by omega)
        have hwn : wt ≠ W'.heap.size := by have := HWT7.out.lt; omega
        by_cases hx : x = q
        · have hxe : xs[x]?.getD 0 = e := by rw [hx, he]; rfl
          rw [hxe]
          have hne : (e != e) = false := by simp
          clear hn hX hb7X hrq hrow hq he hx hxe e2 e3 hL
          gi_wp2_with fail
          have hset := HN.out.set (.int .i64 ((q : Int) + 1))
          refine ⟨(KeepsOthers.setCell _ _ _).from _, fun hr => ((Fr.refl (· = W'.heap.size) X).setCell (p := ⟨W'.heap.size, 0, none⟩) (.inl rfl) _).own hr (fun g hg e => by have := HV7.out g hg; omega), ?_, HX.out.setCell (p := ⟨W'.heap.size, 0, none⟩) (Nat.le_refl _) _⟩
          rw [List.length_append, List.length_singleton, HQ.out, show ((q + 1 : Nat) : Int) = (q : Int) + 1 by omega]
          exact hset
        · have hne : (e != xs[x]?.getD 0) = true := by
            have := HMN.out q x e he hx
            rw [List.getD_eq_getElem?_getD] at this
            simp; exact this
          have HM := Lib.hid (show MissR (pre ++ [x]) from ⟨pre, x, rfl, by rw [hq]; exact hx⟩)
          obtain ⟨ex, hex⟩ : ∃ ex, xs[x]?.getD 0 = ex := ⟨_, rfl⟩
          rw [hex] at hne ⊢
          clear hn hX hb7X hrq hrow hq he hx hex e2 e3 hL
          gi_wp2_with fail
          exact ⟨(KeepsOthers.setCell _ _ _).from _, rfl, HM.out⟩
      case doneBX =>
        rintro D2 ys X hD2 rfl ⟨hn, hX⟩ hK2
        rw [List.length_range] at hn
        have hb7X : Below w7.heap.size w7 X := HB.out.trans (hX.mono HB.out.size)
        have hci := hn.cell
        have hcw := (show Boxed X wt 23 (.slice va4 xs.length vc4) from (hb7X.block _ HWT7.out.lt).trans HWT7.out).cell
        have HSM := Lib.hid (gsame_any (HT7.out.below hb7X))
        have HB7X := Lib.hid hb7X
        have HDX := Lib.hid (show X.heap[D]? = some (.deferred (some [])) from (hX.block D hDl).trans HKD.out)
        have HK2 := Lib.hid hK2
        have hD2l : D < D2 := by omega
        obtain ⟨L, hL⟩ : ∃ L, xs.length = L := ⟨_, rfl⟩
        rw [hL] at hcw hci hxb hvc1
        have hLL : ((L : Int) == (L : Int)) = true := by simp
        clear hn hX hb7X hK2 hL
        gi_wp2_with fail
        refine ⟨trivial, ?_⟩
        refine (callsIn_wide.2 HSM.out).mono ?_
        rintro e w10 ⟨rfl, hb10⟩
        have HB10 := Lib.hid hb10
        clear hb10 HSM
        gi_wp2_with fail
        refine ⟨trivial, ?_⟩
        refine (callsIn_wide.2 (known_any _)).mono ?_
        rintro e wk ⟨rfl, hbk⟩
        have hbXk := HB10.out.trans (hbk.mono HB10.out.size)
        have hrqk := HRB7.out.below (HB7X.out.trans (hbXk.mono HB7X.out.size))
        have hck := hrqk.r.cell
        have hfk := hrqk.r.frozen
        have hc9 : (wk.setCell ⟨w.heap.size + 1, 0, none⟩ (.bool true)).cell? ⟨w.heap.size + 1, 0, none⟩ = some (.bool true) := (hrqk.r.set (.bool true)).cell
        have HBS := Lib.hid (hrqk.base.setCell (p := ⟨w.heap.size + 1, 0, none⟩) (Nat.le_succ _) (.bool true))
        have HD2k := Lib.hid (show wk.heap[D2]? = some (.deferred (some [])) from (hbXk.block D2 (Array.getElem?_eq_some_iff.1 HK2.out).1).trans HK2.out)
        have HDk := Lib.hid (show wk.heap[D]? = some (.deferred (some [])) from (hbXk.block D (Array.getElem?_eq_some_iff.1 HDX.out).1).trans HDX.out)
        clear hbk hbXk hrqk
        gi_wp2_with fail
        have hK2' : (wk.setCell ⟨w.heap.size + 1, 0, none⟩ (.bool true)).heap[D2]? = some (.deferred (some [])) := (Below.heap_setCell wk _ _ D2 (by show D2 ≠ w.heap.size + 1; omega)).trans HD2k.out
        have hKD' : (wk.setCell ⟨w.heap.size + 1, 0, none⟩ (.bool true)).heap[D]? = some (.deferred (some [])) := (Below.heap_setCell wk _ _ D (by show D ≠ w.heap.size + 1; omega)).trans HDk.out
        refine ⟨by simp, .inl ⟨_, _, rfl, run_takeDeferred hK2', ?_⟩⟩
        have hd10 : ((wk.setCell ⟨w.heap.size + 1, 0, none⟩ (.bool true)).putObj D2 (.deferred none)).heap[D]? = some (.deferred (some [])) := (World.putObj_heap_other (by omega)).trans hKD'
        refine ⟨by simp, .inl ⟨_, _, rfl, run_takeDeferred hd10, ?_⟩⟩
        have hc10 := cell_kept hc9 (grownBy_putObj' _ D2 (.deferred none)) (fun r e => by cases e; exact ⟨_, hK2', rfl⟩)
        have hc11 := cell_kept hc10 (grownBy_putObj' _ D (.deferred none)) (fun r e => by cases e; exact ⟨_, hd10, rfl⟩)
        refine ⟨.bool true, ?_, rfl, (HBS.out.trans (belowK_b (w := w) (Nat.le_refl _) _ D2 _ _ (by omega) hK2' rfl rfl)).trans (belowK_b (w := w) (Nat.le_refl _) _ D _ _ (by omega) hd10 rfl rfl)⟩
        simp [results, Try.f4, go_sem, hc11]
      case stopBX =>
        rintro D2 c pre X hD2 ⟨k, hk, rfl⟩ ⟨rfl, hm⟩ _
        exact (not_missR hm).elim
  · clear HOK4
    gi_wp2_with fail
    have bn8 := Boxed.new w7 3 (.int .i64 0)
    obtain ⟨w8, hw8⟩ : ∃ w8, w7.alloc (.cells #[.int .i64 0] 3) = w8 := ⟨_, rfl⟩
    have hb8 : Below w7.heap.size w7 w8 := by rw [← hw8]; exact (Below.refl _ _).alloc (Nat.le_refl _) _
    have hs8 : w7.heap.size < w8.heap.size := by rw [← hw8]; simp
    rw [hw8] at bn8 ⊢
    have hbs8 : Boxed w8 Bs 23 v7 := (hb8.block _ hBsl).trans HBS7.out
    have hsr8 : w8.ownsRow 0 3 1 v7 xs.length (ints xs) := (Fr.of_below (O := fun _ => False) hb8).own HSR7.out (fun _ _ => id)
    have HV7 := Lib.hid (fun (g : Nat) (hg : v7.ownBlock = some g) => (HSR7.out.lt g hg).2)
    clear hw8
    refine wpIn_range_two rfl (by omega) (gf := 80) (lb := #[.pointer (some ⟨Bs, 0, none⟩)]) rfl trivial (enters_of Try.func80 (by kernel_rfl) rfl)
      (each_stops (5 - 1) (by omega) Bs v7 xs _ hbs8 hsr8) keepL_t keepL_b (Below.refl _ _) (fun _ => rfl) 0
      (fun pre W' => Boxed W' w7.heap.size 3 (.int .i64 (pre.length : Int)) ∧ Below w7.heap.size w7 W')
      (fun W' => Below w7.heap.size w7 W')
      (OwnFrom.and (Own.from (boxed_own w7.heap.size 3 (fun (pre : List Nat) => .int .i64 (pre.length : Int))) _) (ownFrom_below (Nat.le_refl _) (by omega)))
      (ownFrom_below (Nat.le_refl _) (by omega))
      ⟨bn8, hb8⟩ (fun _ _ h => h.2)
      ?a1Y ?assignY ?bodyY ?hxY ?bothY
    case assignY =>
      intro l x W' K' hK'
      gi_wp2
      exact hK'
    case bodyY =>
      rintro l pre x W' ⟨hn, hB⟩ hlt
      have hci := hn.cell
      have hfi := hn.frozen
      have hrq := HRB7.out.below hB
      have hcs := hrq.s.cell
      have HN := Lib.hid hn
      have HB := Lib.hid hB
      obtain ⟨q, hq⟩ : ∃ q, pre.length = q := ⟨_, rfl⟩
      rw [hq] at hci hlt
      have HQ := Lib.hid hq
      have hq2 : (q : Int) ≤ 65536 := by omega
      have hq0 : (0 : Int) ≤ q := by omega
      have hbn : w.heap.size ≠ w7.heap.size := by omega
      clear hn hB hq hrq
      by_cases hst : stop ≤ (q : Int) + 1
      · have hd1 : decide (stop ≤ (q : Int) + 1) = true := decide_eq_true hst
        clear hst
        gi_wp2_with fail
        exact ⟨(KeepsOthers.setCell _ _ _).from _, rfl, HB.out.setCell (p := ⟨w7.heap.size, 0, none⟩) (Nat.le_refl _) _⟩
      · have hd1 : decide (stop ≤ (q : Int) + 1) = false := decide_eq_false hst
        clear hst
        gi_wp2_with fail
        have hset := HN.out.set (.int .i64 ((q : Int) + 1))
        refine ⟨(KeepsOthers.setCell _ _ _).from _, fun hr => ((Fr.refl (· = w7.heap.size) W').setCell (p := ⟨w7.heap.size, 0, none⟩) (.inl rfl) _).own hr (fun g hg e => by have := HV7.out g hg; omega), ?_, HB.out.setCell (p := ⟨w7.heap.size, 0, none⟩) (Nat.le_refl _) _⟩
        rw [List.length_append, List.length_singleton, HQ.out, show ((q + 1 : Nat) : Int) = (q : Int) + 1 by omega]
        exact hset
    case hxY => exact fun _ _ h => h
    case bothY =>
      intro D W' hD hB hK
      have HB := Lib.hid hB
      have HKD := Lib.hid hK
      have hDl : D < W'.heap.size := (Array.getElem?_eq_some_iff.1 hK).1
      have hszW := hB.size
      clear hB hK bn8 hb8 hbs8 hsr8
      gi_wp2_with fail
      have bi9 := Boxed.new W' 3 (.int .i64 0)
      obtain ⟨w9, hw9⟩ : ∃ w9, W'.alloc (.cells #[.int .i64 0] 3) = w9 := ⟨_, rfl⟩
      have hb9 : Below W'.heap.size W' w9 := by rw [← hw9]; exact (Below.refl _ _).alloc (Nat.le_refl _) _
      have hs9 : W'.heap.size < w9.heap.size := by rw [← hw9]; simp
      rw [hw9] at bi9 ⊢
      have hb79 : Below w7.heap.size w7 w9 := HB.out.trans (hb9.mono HB.out.size)
      have hbs9 : Boxed w9 Bs 23 v7 := (hb79.block _ hBsl).trans HBS7.out
      have hsr9 : w9.ownsRow 0 3 1 v7 xs.length (ints xs) := (Fr.of_below (O := fun _ => False) hb79).own HSR7.out (fun _ _ => id)
      clear hw9
      refine wpIn_rangeFunc_ownG rfl (by omega) (gf := 80) (lb := #[.pointer (some ⟨Bs, 0, none⟩)]) rfl trivial (enters_of Try.func80 (by kernel_rfl) rfl)
        (each_stops (5 - 1) (by omega) Bs v7 xs _ hbs9 hsr9) keepL_t keepL_b (Below.refl _ _) (fun _ => rfl)
        (fun pre X => Boxed X W'.heap.size 3 (.int .i64 (pre.length : Int)) ∧ Below W'.heap.size W' X)
        (fun c pre _ => c = .ret ∧ MissR pre)
        (OwnFrom.and (Own.from (boxed_own W'.heap.size 3 (fun (pre : List Nat) => .int .i64 (pre.length : Int))) _) (ownFrom_below (Nat.le_refl _) (by omega)))
        (fun _ _ _ _ _ hs _ _ => hs)
        ⟨bi9, hb9⟩
        ?b1Y ?assignBY ?bodyBY ?doneBY ?stopBY
      case assignBY =>
        intro l x X K' hK'
        gi_wp2
        exact hK'
      case bodyBY =>
        rintro l pre x X ⟨hn, hX⟩ hlt
        have hb7X : Below w7.heap.size w7 X := HB.out.trans (hX.mono HB.out.size)
        have hci := hn.cell
        have hfi := hn.frozen
        have hrq := HRB7.out.below hb7X
        have hcr := hrq.r.cell
        have hfr := hrq.r.frozen
        have hcw := (show Boxed X wt 23 (.slice va4 xs.length vc4) from (hb7X.block _ HWT7.out.lt).trans HWT7.out).cell
        have hrow := (Fr.of_below (O := fun _ => False) hb7X).own HROW7.out (fun _ _ => id)
        obtain ⟨q, hq⟩ : ∃ q, pre.length = q := ⟨_, rfl⟩
        rw [hq] at hci hlt
        obtain ⟨e, he⟩ : ∃ e, xs[q]? = some e := ⟨_, List.getElem?_eq_getElem hlt⟩
        obtain ⟨g2, c2', hu2, _, _, _, hce⟩ := int_at hrow hlt he
        injection hu2 with e1 e2 e3
        subst e1
        have HN := Lib.hid hn
        have HX := Lib.hid hX
        have HQ := Lib.hid hq
        obtain ⟨L, hL⟩ : ∃ L, xs.length = L := ⟨_, rfl⟩
        rw [hL] at hcw hlt hxb hvc1
        have hq1 : (q : Int) < L := by omega
        have hq0 : (0 : Int) ≤ q := by omega
        have hge1 : decide (L ≤ q) = false := decide_eq_false (by omega)
        have hge2 : decide ((L : Int) ≤ (q : Int)) = false := decide_eq_false (by omega)
        have hwn : wt ≠ W'.heap.size := by have := HWT7.out.lt; omega
        by_cases hx : x = q
        · have hxe : xs[x]?.getD 0 = e := by rw [hx, he]; rfl
          rw [hxe]
          have hne : (e != e) = false := by simp
          clear hn hX hb7X hrq hrow hq he hx hxe e2 e3 hL
          gi_wp2_with fail
          have hset := HN.out.set (.int .i64 ((q : Int) + 1))
          refine ⟨(KeepsOthers.setCell _ _ _).from _, fun hr => ((Fr.refl (· = W'.heap.size) X).setCell (p := ⟨W'.heap.size, 0, none⟩) (.inl rfl) _).own hr (fun g hg e => by have := HV7.out g hg; omega), ?_, HX.out.setCell (p := ⟨W'.heap.size, 0, none⟩) (Nat.le_refl _) _⟩
          rw [List.length_append, List.length_singleton, HQ.out, show ((q + 1 : Nat) : Int) = (q : Int) + 1 by omega]
          exact hset
        · have hne : (e != xs[x]?.getD 0) = true := by
            have := HMN.out q x e he hx
            rw [List.getD_eq_getElem?_getD] at this
            simp; exact this
          have HM := Lib.hid (show MissR (pre ++ [x]) from ⟨pre, x, rfl, by rw [hq]; exact hx⟩)
          obtain ⟨ex, hex⟩ : ∃ ex, xs[x]?.getD 0 = ex := ⟨_, rfl⟩
          rw [hex] at hne ⊢
          clear hn hX hb7X hrq hrow hq he hx hex e2 e3 hL
          gi_wp2_with fail
          exact ⟨(KeepsOthers.setCell _ _ _).from _, rfl, HM.out⟩
      case doneBY =>
        rintro D2 ys X hD2 rfl ⟨hn, hX⟩ hK2
        rw [List.length_range] at hn
        have hb7X : Below w7.heap.size w7 X := HB.out.trans (hX.mono HB.out.size)
        have hci := hn.cell
        have hcw := (show Boxed X wt 23 (.slice va4 xs.length vc4) from (hb7X.block _ HWT7.out.lt).trans HWT7.out).cell
        have HSM := Lib.hid (gsame_any (HT7.out.below hb7X))
        have HB7X := Lib.hid hb7X
        have HDX := Lib.hid (show X.heap[D]? = some (.deferred (some [])) from (hX.block D hDl).trans HKD.out)
        have HK2 := Lib.hid hK2
        have hD2l : D < D2 := by omega
        obtain ⟨L, hL⟩ : ∃ L, xs.length = L := ⟨_, rfl⟩
        rw [hL] at hcw hci hxb hvc1
        have hLL : ((L : Int) == (L : Int)) = true := by simp
        clear hn hX hb7X hK2 hL
        gi_wp2_with fail
        refine ⟨trivial, ?_⟩
        refine (callsIn_wide.2 HSM.out).mono ?_
        rintro e w10 ⟨rfl, hb10⟩
        have HB10 := Lib.hid hb10
        clear hb10 HSM
        gi_wp2_with fail
        refine ⟨trivial, ?_⟩
        refine (callsIn_wide.2 (known_any _)).mono ?_
        rintro e wk ⟨rfl, hbk⟩
        have hbXk := HB10.out.trans (hbk.mono HB10.out.size)
        have hrqk := HRB7.out.below (HB7X.out.trans (hbXk.mono HB7X.out.size))
        have hck := hrqk.r.cell
        have hfk := hrqk.r.frozen
        have hc9 : (wk.setCell ⟨w.heap.size + 1, 0, none⟩ (.bool true)).cell? ⟨w.heap.size + 1, 0, none⟩ = some (.bool true) := (hrqk.r.set (.bool true)).cell
        have HBS := Lib.hid (hrqk.base.setCell (p := ⟨w.heap.size + 1, 0, none⟩) (Nat.le_succ _) (.bool true))
        have HD2k := Lib.hid (show wk.heap[D2]? = some (.deferred (some [])) from (hbXk.block D2 (Array.getElem?_eq_some_iff.1 HK2.out).1).trans HK2.out)
        have HDk := Lib.hid (show wk.heap[D]? = some (.deferred (some [])) from (hbXk.block D (Array.getElem?_eq_some_iff.1 HDX.out).1).trans HDX.out)
        clear hbk hbXk hrqk
        gi_wp2_with fail
        have hK2' : (wk.setCell ⟨w.heap.size + 1, 0, none⟩ (.bool true)).heap[D2]? = some (.deferred (some [])) := (Below.heap_setCell wk _ _ D2 (by show D2 ≠ w.heap.size + 1; omega)).trans HD2k.out
        have hKD' : (wk.setCell ⟨w.heap.size + 1, 0, none⟩ (.bool true)).heap[D]? = some (.deferred (some [])) := (Below.heap_setCell wk _ _ D (by show D ≠ w.heap.size + 1; omega)).trans HDk.out
        refine ⟨by simp, .inl ⟨_, _, rfl, run_takeDeferred hK2', ?_⟩⟩
        have hd10 : ((wk.setCell ⟨w.heap.size + 1, 0, none⟩ (.bool true)).putObj D2 (.deferred none)).heap[D]? = some (.deferred (some [])) := (World.putObj_heap_other (by omega)).trans hKD'
        refine ⟨by simp, .inl ⟨_, _, rfl, run_takeDeferred hd10, ?_⟩⟩
        have hc10 := cell_kept hc9 (grownBy_putObj' _ D2 (.deferred none)) (fun r e => by cases e; exact ⟨_, hK2', rfl⟩)
        have hc11 := cell_kept hc10 (grownBy_putObj' _ D (.deferred none)) (fun r e => by cases e; exact ⟨_, hd10, rfl⟩)
        refine ⟨.bool true, ?_, rfl, (HBS.out.trans (belowK_b (w := w) (Nat.le_refl _) _ D2 _ _ (by omega) hK2' rfl rfl)).trans (belowK_b (w := w) (Nat.le_refl _) _ D _ _ (by omega) hd10 rfl rfl)⟩
        simp [results, Try.f4, go_sem, hc11]
      case stopBY =>
        rintro D2 c pre X hD2 ⟨k, hk, rfl⟩ ⟨rfl, hm⟩ _
        exact (not_missR hm).elim
theorem gcReaches_walkI {w : World} {a : Option Addr} {N c : Nat} {rs : List O4} {v2 : Value} {zs : List Int} (hv : ArgV w a N rs) (hz : IntsV w v2 zs) (stop : Int) (_ : -9223372036854775808 ≤ stop ∧ stop ≤ 9223372036854775807) :
    Calls Try.prog 4 #[.slice a N c, v2, .int .i64 stop] w fun e w' => e = .returned (.bool true) ∧ Below w.heap.size w w' := gcReaches_walk hv hz stop
end Go.Proofs.Ytjdhjehnofediaa
