/- The walk of the statement GcLeast: it returns true. Condition: the arguments read as objects and integers. -/
import Derived.Test.YtjdhjehnofediaaGcBeg
import Derived.Test.YtjdhjehnofediaaMemI
namespace Go.Proofs.Ytjdhjehnofediaa
open Go Go.RowKit Go.Shelf
attribute [local go_sem] Oper.semAt_some
/-- Objects: the memory is boxed; the function value captures the box. -/
theorem objects_box (F : Fence) (n : Nat) (h4 : F.fn 34) (hro : F.round = none) (p : Option Addr) (w : World) :
    CallsIn F n Try.prog 34 #[.pointer p] w fun e w' => e = .returned (.func (.func 65) #[] #[.pointer (some ⟨w.heap.size, 0, none⟩)]) ∧ w' = w.alloc (.cells #[.pointer p] 26) := by
  refine callsIn_of_wp Try.func34 rfl h4 ?_ hro
  simp only [Try.ntmps34, List.size_toArray, List.length_cons, List.length_nil, Nat.reduceAdd, Nat.reduceSub, Array.replicate_succ, Array.replicate_zero, List.push_toArray, List.append_toArray, List.nil_append, List.cons_append]
  gi_wp2
  go_ret
  exact ⟨rfl, rfl⟩
theorem reachD {os : List Ob} {h W : Nat} {ns met : List Nat} (e : reach os h W ns = some met) : (reach os h W ns).getD [] = met := by rw [e]; rfl
set_option maxRecDepth 100000 in
set_option maxHeartbeats 8000000 in
theorem gcLeast_walk {w : World} {a : Option Addr} {N c : Nat} {rs : List O4} {v2 : Value} {zs : List Int} (hv : ArgV w a N rs) (hz : IntsV w v2 zs) :
    Calls Try.prog 8 #[.slice a N c, v2] w fun e w' => e = .returned (.bool true) ∧ Below w.heap.size w w' := by
  have hnf : ∀ (p : Nat) (W : World), (binOp BinOp.eql 48 (Value.func (Fn.func 80) #[] #[Value.pointer (some ⟨p, 0, none⟩)]) Value.nilFunc).run Try.prog W = .ok (.bool false) W := fun _ _ => by kernel_rfl
  have hnf2 : ∀ (p : Nat) (W : World), (binOp BinOp.eql 48 (Value.func (Fn.func 65) #[] #[Value.pointer (some ⟨p, 0, none⟩)]) Value.nilFunc).run Try.prog W = .ok (.bool false) W := fun _ _ => by kernel_rfl
  have hrng := hv.rng
  obtain ⟨a2, N2, c2, rfl, hrv⟩ := roots_of hz
  have hzl := hrv.len
  have HH := Lib.hid (heap_any (c := c) hv)
  have HRV := Lib.hid hrv
  have huh := used_heap hrng
  have hWb := heapW_bd hrng
  have HRN := Lib.hid (heapR hrng)
  obtain ⟨W, hW⟩ : ∃ W, heapW rs = W := ⟨_, rfl⟩
  obtain ⟨os, hos⟩ : ∃ os, heapO rs = os := ⟨_, rfl⟩
  rw [hW, hos] at HH HRN
  rw [hW, hos] at huh
  rw [hW] at hWb
  obtain ⟨N1, hN1⟩ : ∃ N1, os.length = N1 := ⟨_, rfl⟩
  rw [hN1] at HH
  clear hv hz hrv hrng hW hos hN1
  refine (callsIn_wide (n := 3)).1 ?_
  refine callsIn_of_wp_marks Try.func8 rfl trivial ?_ rfl
  simp only [Try.ntmps8, List.size_toArray, List.length_cons, List.length_nil, Nat.reduceAdd, Nat.reduceSub, Array.replicate_succ, Array.replicate_zero, List.push_toArray, List.append_toArray, List.nil_append, List.cons_append]
  gi_wp2_with fail
  refine ⟨trivial, ?_⟩
  refine (callsIn_wide.2 HH.out).mono ?_
  rintro e w1 ⟨a1, c1, rfl, ho1, hb1⟩
  have HO1 := Lib.hid ho1
  have HB1 := Lib.hid hb1
  clear ho1 hb1 HH
  have HMD := Lib.hid (made_any (c := c1) HO1.out HRN.out)
  gi_wp2_with fail
  refine ⟨trivial, ?_⟩
  refine (callsIn_wide.2 HMD.out).mono ?_
  rintro e w2 ⟨rfl, R2, m2⟩
  have hpn : ((some (⟨w1.heap.size, 0, none⟩ : Addr)) == none) = false := rfl
  obtain ⟨now, hnow⟩ : ∃ now, heapObs os = now := ⟨_, rfl⟩
  rw [hnow] at m2 huh
  have HM2 := Lib.hid m2
  have HB2 := Lib.hid (HB1.out.trans (m2.fr.mono HB1.out.size))
  have HWD := Lib.hid (words_root (c := c1) (c2 := c2) (HO1.out.below m2.fr) (HRV.out.below HB2.out))
  clear m2 HMD hnow
  gi_wp2_with fail
  refine ⟨trivial, ?_⟩
  refine (callsIn_wide.2 HWD.out).mono ?_
  rintro e w3 ⟨v3, rfl, hown3, hb3⟩
  obtain ⟨ns, hns⟩ : ∃ ns, rootsN os zs (min N2 50) = ns := ⟨_, rfl⟩
  have hnl : ns.length = min N2 50 := by rw [← hns]; exact rootsN_len' hzl
  have hnw : ∀ x ∈ ns, x < 18446744073709551616 := by rw [← hns]; exact rootsN_lt _ _ _
  rw [hns] at hown3
  obtain ⟨M, hM⟩ : ∃ M, min N2 50 = M := ⟨_, rfl⟩
  have hM50 : M ≤ 50 := by omega
  rw [hM] at hown3 hnl
  obtain ⟨a3, c3, rfl, hWV, hg3⟩ := wordsV_own hown3 hnl (by omega) hnw
  have HWV := Lib.hid hWV
  have HOW3 := Lib.hid hown3
  have HB3 := Lib.hid hb3
  have HNW := Lib.hid hnw
  have HNL := Lib.hid hnl
  have HM3 := Lib.hid (HM2.out.m.below hb3)
  have HG3 := Lib.hid (show ∀ (g off : Nat), a3 = some ⟨g, off, none⟩ → ¬ Own w1.heap.size R2 g from fun g off hg q => by
    have h1 := (hown3.lt g (hg3 g off hg)).1
    have := HM2.out.m.own_lt g q
    omega)
  have HBB3 := Lib.hid (HB2.out.trans (hb3.mono HB2.out.size))
  clear hown3 hb3 hWV hns hM hg3 hnl HWD hzl
  have HLV := Lib.hid (live_any (c := c3) HM3.out HM2.out.z HWV.out)
  obtain ⟨L0, hL0⟩ : ∃ L0, liveN now 0 W ns = L0 := ⟨_, rfl⟩
  obtain ⟨E0, hE0⟩ : ∃ E0, checkE now 0 W ns = E0 := ⟨_, rfl⟩
  rw [hL0, hE0] at HLV
  gi_wp2_with fail
  refine ⟨trivial, ?_⟩
  refine (callsIn_wide.2 HLV.out).mono ?_
  rintro e w3l ⟨rfl, hbl⟩
  have HM3l := Lib.hid (HM3.out.below hbl)
  have HBBl := Lib.hid (HBB3.out.trans (hbl.mono HBB3.out.size))
  have HWVl := Lib.hid (show WordsV w3l a3 M ns from ⟨HWV.out.len, HWV.out.few, HWV.out.word, fun j n hj => by
    obtain ⟨g, off, h1, h2, h3⟩ := HWV.out.cell j n hj
    exact ⟨g, off, h1, by have := hbl.size; omega, (World.cell?_of_block (hbl.block g h2)).trans h3⟩⟩)
  have HLE := Lib.hid hL0
  have HEE := Lib.hid hE0
  clear hbl HLV hL0 hE0
  have HCO := Lib.hid (collect_any (c := c3) HM3l.out HM2.out.z HWVl.out HG3.out (by omega))
  gi_wp2_with fail
  refine ⟨trivial, ?_⟩
  refine (callsIn_wide.2 HCO.out).mono ?_
  rintro e w4 (⟨hr4, rfl, hb4⟩ | ⟨met, v4, R4, hr4, rfl, x4, ho4, hg4⟩)
  · have HB4 := Lib.hid (HBBl.out.trans (hb4.mono HBBl.out.size))
    have HHF := Lib.hid (half_any (HM3l.out.below hb4))
    have hE40 : E0 = 40 := by rw [← HEE.out]; unfold checkE; rw [hr4]
    subst hE40
    clear hr4 hb4
    gi_wp2_with fail
    refine ⟨trivial, ?_⟩
    refine (callsIn_wide.2 HHF.out).mono ?_
    rintro e w5 ⟨rfl, hw5⟩
    subst w5
    gi_wp2_with fail
    refine ⟨trivial, ?_⟩
    refine (callsIn_wide.2 (known_any _)).mono ?_
    rintro e wk ⟨rfl, hbk⟩
    have HBK := Lib.hid (HB4.out.trans (hbk.mono HB4.out.size))
    clear hbk
    gi_wp2_with fail
    refine ⟨_, results_tmp rfl _ _ _, rfl, HBK.out⟩
  · skip
    have hok := reach_okm hr4
    have hli := live_old hr4
    have x4' : MX w3l (Own w1.heap.size R2) w1.heap.size W 1 ⟨newF 0 W now met, oldK 1 W now met met⟩ w4 R4 := x4
    obtain ⟨hbl4, hge4⟩ := mx_below HBBl.out (fun i hi => Nat.le_trans HB1.out.size (HM2.out.ge i hi)) x4'
    have HX4 := Lib.hid x4'
    have HB4 := Lib.hid hbl4
    have HGE4 := Lib.hid hge4
    have HR4 := Lib.hid hr4
    have HG4 := Lib.hid hg4
    have HO4 := Lib.hid ho4
    have HRL := Lib.hid (ren_lt HM2.out.z hok HNW.out)
    have hul := used_le_old HM2.out.z hok
    have hUW := x4'.z.un
    obtain ⟨U, hU⟩ : ∃ U, used (newF 0 W now met) = U := ⟨_, rfl⟩
    rw [hU] at hul hli
    have hUW' : U ≤ W := by have : used (newF 0 W now met) ≤ W := hUW; omega
    have HU := Lib.hid hU
    have HOK := Lib.hid hok
    have HLI := Lib.hid hli
    clear hUW x4 x4' hbl4 hge4 hr4 hg4 ho4 hok hU hli
    have hE00 : E0 = 0 := by rw [← HEE.out]; unfold checkE; rw [HR4.out]
    have hLU : L0 = U := by rw [← HLE.out, HLI.out]
    subst hE00 hLU
    have HM4 := Lib.hid (show Mem w4 w1.heap.size W 1 R4 (newF 0 W now met) (oldK 1 W now met met) from HX4.out.m)
    have HZ4 := Lib.hid (show WF W 1 (newF 0 W now met) (oldK 1 W now met met) from HX4.out.z)
    obtain ⟨a4, c4, e4, hWV4, _⟩ := wordsV_own HO4.out (by rw [List.length_map]) (by rw [HNL.out]; omega) HRL.out
    rw [HNL.out] at e4 hWV4
    subst e4
    have HW4 := Lib.hid hWV4
    clear hWV4
    have bn := Boxed.new w4 3 (.int .i64 0)
    have hb5 : Below w4.heap.size w4 (w4.alloc (.cells #[.int .i64 0] 3)) := (Below.refl _ w4).alloc (Nat.le_refl _) _
    have wvb : ∀ W1, Below w4.heap.size w4 W1 → WordsV W1 a4 M (ns.map (renW 0 W now met)) := fun W1 hb => ⟨HW4.out.len, HW4.out.few, HW4.out.word, fun j n hj => by
      obtain ⟨g, off, h1, h2, h3⟩ := HW4.out.cell j n hj
      exact ⟨g, off, h1, by have := hb.size; omega, (World.cell?_of_block (hb.block g h2)).trans h3⟩⟩
    have HWVB := Lib.hid wvb
    have HRC := Lib.hid (reach_any (c := c4) (HM4.out.below hb5) HZ4.out (wvb _ hb5))
    have HBN := Lib.hid bn
    have HB5 := Lib.hid hb5
    clear bn hb5 wvb
    gi_wp2_with fail
    refine ⟨trivial, ?_⟩
    refine (callsIn_wide.2 HRC.out).mono ?_
    rintro e w6 ⟨Bs, v6, rfl, hbs, hge, hb6, hrow⟩
    have hrn := reach_new (ex := []) HM2.out.z HR4.out
    rw [List.append_nil] at hrn
    have hrn' : reach (newF 0 W now met) 1 W (ns.map (renW 0 W now met)) = some (List.range met.length) := hrn
    rw [reachD hrn'] at hrow
    obtain ⟨K, hK⟩ : ∃ K, met.length = K := ⟨_, rfl⟩
    have hKN : (newF 0 W now met).length = K := by rw [newF_length, hK]
    obtain ⟨xs, hxs⟩ : ∃ xs, metI 1 W (newF 0 W now met) (List.range met.length) = xs := ⟨_, rfl⟩
    have hxl : xs.length = K := by rw [← hxs, metI_length, List.length_range, hK]
    rw [hxs, List.length_range, hK] at hrow
    have hB6 : Below w4.heap.size w4 w6 := HB5.out.trans (hb6.mono HB5.out.size)
    have HB6 := Lib.hid hB6
    have HRW := Lib.hid hrow
    have HBS := Lib.hid hbs
    have HBN6 := Lib.hid (show Boxed w6 w4.heap.size 3 (.int .i64 0) from (hb6.block _ (by simp)).trans HBN.out)
    have HKN := Lib.hid hKN
    have HXL := Lib.hid hxl
    have hKb : K ≤ 65536 := by
      have h2 := start_mono (newF 0 W now met) (i := 0) (j := (newF 0 W now met).length) (Nat.zero_le _) (Nat.le_refl _)
      rw [start_len, HU.out, hKN] at h2
      omega
    have hge' : w4.heap.size < Bs := by rw [World.size_alloc] at hge; omega
    have hlt46 : w4.heap.size < w6.heap.size := HBN6.out.lt
    clear hbs hge hb6 hrow hrn hrn' hxs hxl hB6 hK hKN HRC
    have bO := Boxed.new w6 26 (.pointer (some ⟨w1.heap.size, 0, none⟩))
    have HBO := Lib.hid bO
    clear bO
    gi_wp2_with (refine ⟨trivial, ?_⟩; gi_at_call 34; refine (objects_box Fence.wide _ trivial rfl _ _).mono ?_; rintro e w' ⟨rfl, rfl⟩)
    obtain ⟨w7, hw7⟩ : ∃ w7, w6.alloc (.cells #[.pointer (some ⟨w1.heap.size, 0, none⟩)] 26) = w7 := ⟨_, rfl⟩
    have hb7 : Below w4.heap.size w4 w7 := by rw [← hw7]; exact HB6.out.alloc HB6.out.size _
    have hs67 : w6.heap.size < w7.heap.size := by rw [← hw7]; simp
    have bs7 : Boxed w7 Bs 23 v6 := by rw [← hw7]; exact HBS.out.alloc _
    have bn7 : Boxed w7 w4.heap.size 3 (.int .i64 0) := by rw [← hw7]; exact HBN6.out.alloc _
    have row7 : w7.ownsRow 0 3 1 v6 xs.length (ints xs) := by rw [← hw7, HXL.out]; exact (own_mono HRW.out (Nat.zero_le _)).alloc _
    rw [hw7] at HBO ⊢
    have hsb := HB6.out.size
    have HB7 := Lib.hid hb7
    clear hw7 hb7
    have HBX := Lib.hid (show ∀ g, v6.ownBlock = some g → w4.heap.size < g from fun g hg => by have h1 := (HRW.out.lt g hg).1; simp at h1; omega)
    refine wpIn_rangeFunc_ownG rfl (by omega) (gf := 80) (lb := #[.pointer (some ⟨Bs, 0, none⟩)]) rfl trivial (enters_of Try.func80 (by kernel_rfl) rfl)
      (each_stops (3 - 1) (by omega) Bs v6 xs _ bs7 row7) keepL_t keepL_b (Below.refl _ _) (fun _ => rfl)
      (fun pre W' => Boxed W' w4.heap.size 3 (.int .i64 (pre.length : Int)) ∧ (Boxed W' w6.heap.size 26 (.pointer (some ⟨w1.heap.size, 0, none⟩)) ∧ Below w4.heap.size w4 W'))
      (fun _ _ _ => False)
      (OwnFrom.and (Own.from (boxed_own w4.heap.size 3 (fun (pre : List Nat) => .int .i64 (pre.length : Int))) _) (OwnFrom.and (Own.from (boxed_own w6.heap.size 26 (fun (_ : List Nat) => .pointer (some ⟨w1.heap.size, 0, none⟩))) _) (ownFrom_below (Nat.le_refl _) (by omega))))
      (fun _ _ _ _ _ hs _ _ => hs)
      ⟨bn7, HBO.out, HB7.out⟩
      ?a1 ?assign ?body ?done ?stop
    case assign =>
      intro l x W' K' hK'
      gi_wp2
      exact hK'
    case body =>
      rintro l pre x W' ⟨hn, ho, hB⟩ hlt
      rw [HXL.out] at hlt
      have hci := hn.cell
      have hfi := hn.frozen
      have HN := Lib.hid hn
      have HO := Lib.hid ho
      have HB := Lib.hid hB
      obtain ⟨q, hq⟩ : ∃ q, pre.length = q := ⟨_, rfl⟩
      rw [hq] at hci hlt
      have HQ := Lib.hid hq
      have hq2 : (q : Int) ≤ 65536 := by omega
      have hq0 : (0 : Int) ≤ q := by omega
      clear hn ho hB hq
      gi_wp2_with fail
      have hset := HN.out.set (.int .i64 ((q : Int) + 1))
      refine ⟨(KeepsOthers.setCell _ _ _).from _, fun hr => ((Fr.refl (· = w4.heap.size) W').setCell (p := ⟨w4.heap.size, 0, none⟩) (.inl rfl) _).own hr (fun g hg e => by have := HBX.out g hg; omega), ?_, HO.out.other (by omega) _, HB.out.setCell (p := ⟨w4.heap.size, 0, none⟩) (Nat.le_refl _) _⟩
      rw [List.length_append, List.length_singleton, HQ.out, show ((q + 1 : Nat) : Int) = (q : Int) + 1 by omega]
      exact hset
    case done =>
      rintro D ys W' hD rfl ⟨hn, ho, hB⟩ hK
      rw [List.length_range, HXL.out] at hn
      have hM' : Mem W' w1.heap.size W 1 R4 (newF 0 W now met) (oldK 1 W now met met) := HM4.out.below hB
      have HMr := Lib.hid hM'
      have HNn := Lib.hid hn
      have HBn := Lib.hid hB
      have HOn := Lib.hid ho
      have HKD := Lib.hid hK
      have hDw : D < W'.heap.size := (Array.getElem?_eq_some_iff.1 hK).1
      clear hn ho hB hK hM'
      gi_wp2_with fail
      refine wpIn_rangeFunc_ownG rfl (by omega) (gf := 65) (lb := #[.pointer (some ⟨w6.heap.size, 0, none⟩)]) rfl trivial (enters_of Try.func65 (by kernel_rfl) rfl)
        (objects_stops (3 - 1) (by omega) w6.heap.size w1.heap.size W 1 R4 (newF 0 W now met) (oldK 1 W now met met) HZ4.out W' HOn.out HMr.out) keepO_t (keepO_b (by omega)) (Below.refl _ _) (fun _ => rfl)
        (fun pre W2 => Boxed W2 w4.heap.size 3 (.int .i64 ((K : Int) - pre.length)) ∧ (Below w4.heap.size w4 W2 ∧ W2.heap[D]? = some (.deferred (some []))))
        (fun _ _ _ => False)
        (OwnFrom.and (Own.from (boxed_own w4.heap.size 3 (fun (pre : List Nat) => .int .i64 ((K : Int) - pre.length))) _) (OwnFrom.and (ownFrom_below (Nat.le_refl _) (by omega)) (fun _ A B row hs hg hr => (hg.block D (Array.getElem?_eq_some_iff.1 hs).1 (fun e => by have := (hr D e.symm).1; omega)).trans hs)))
        (fun _ _ _ _ _ hs _ _ => hs)
        ⟨by simpa using HNn.out, HBn.out, HKD.out⟩
        ?a2 ?assign2 ?body2 ?done2 ?stop2
      case assign2 =>
        intro l x W3 K' hK'
        gi_wp2
        exact hK'
      case body2 =>
        rintro l pre x W3 ⟨hn, hB, hd⟩ hlt
        rw [HKN.out] at hlt
        have hci := hn.cell
        have hfi := hn.frozen
        have HN := Lib.hid hn
        have HB := Lib.hid hB
        have HD := Lib.hid hd
        obtain ⟨q, hq⟩ : ∃ q : Int, (K : Int) - (pre.length : Int) = q := ⟨_, rfl⟩
        have hq2 : q ≤ 65536 := by omega
        have hq0 : 1 ≤ q := by omega
        have HQ := Lib.hid hq
        rw [hq] at hci
        clear hn hB hd hq
        gi_wp2_with fail
        have hset := HN.out.set (.int .i64 (q - 1))
        have hfs : Fr (· = w4.heap.size) W3 (W3.setCell ⟨w4.heap.size, 0, none⟩ (.int .i64 (q - 1))) := (Fr.refl (· = w4.heap.size) W3).setCell (p := ⟨w4.heap.size, 0, none⟩) (.inl rfl) _
        refine ⟨(KeepsOthers.setCell _ _ _).from _, fun hx hy => ⟨hx.other (by omega) _, MemV.kept hy hfs (fun i hi e => by
          subst e
          have := HM4.out.own_lt _ hi
          omega)⟩, ?_, HB.out.setCell (p := ⟨w4.heap.size, 0, none⟩) (Nat.le_refl _) _, (Below.heap_setCell W3 _ _ D (by show D ≠ w4.heap.size; omega)).trans HD.out⟩
        rw [List.length_append, List.length_singleton, show (K : Int) - ((pre.length + 1 : Nat) : Int) = q - 1 by have := HQ.out; omega]
        exact hset
      case done2 =>
        rintro D2 ys2 W5 hD2 rfl ⟨hn, hB, hd⟩ hK2
        rw [List.length_range, HKN.out, Int.sub_self] at hn
        have hci := hn.cell
        have hn1 := hn
        have HM5 := Lib.hid (HM4.out.below hB)
        obtain ⟨l1, l2⟩ := live_new (ex := []) HM2.out.z HR4.out
        rw [List.append_nil] at l1 l2
        have l1' : liveN (newF 0 W now met) 1 W (ns.map (renW 0 W now met)) = L0 := by rw [← HU.out]; exact l1
        have l2' : checkE (newF 0 W now met) 1 W (ns.map (renW 0 W now met)) = 0 := l2
        have HLV := Lib.hid (live_any (c := c4) HM5.out HZ4.out (HWVB.out W5 hB))
        rw [l1', l2'] at HLV
        have HN5 := Lib.hid hn1
        have HB5' := Lib.hid hB
        have HD5 := Lib.hid hd
        have HK5 := Lib.hid hK2
        clear hn hn1 hB hd hK2 l1 l2 l1' l2' hci
        gi_wp2_with fail
        refine ⟨trivial, ?_⟩
        refine (callsIn_wide.2 HLV.out).mono ?_
        rintro e w8 ⟨rfl, hb8⟩
        have hn8 : Boxed w8 w4.heap.size 3 (.int .i64 0) := (hb8.block _ HN5.out.lt).trans HN5.out
        have hc8 := hn8.cell
        have HD8 := Lib.hid (show w8.heap[D]? = some (.deferred (some [])) from (hb8.block D (Array.getElem?_eq_some_iff.1 HD5.out).1).trans HD5.out)
        have HK8 := Lib.hid (show w8.heap[D2]? = some (.deferred (some [])) from (hb8.block D2 (Array.getElem?_eq_some_iff.1 HK5.out).1).trans HK5.out)
        have HB8 := Lib.hid (HB5'.out.trans (hb8.mono HB5'.out.size))
        obtain ⟨A, hA⟩ : ∃ A : Int, (W : Int) - L0 = A := ⟨_, rfl⟩
        have HFR := Lib.hid (free_m (HM5.out.below hb8) HZ4.out HU.out A hA)
        have hAb : 0 ≤ A ∧ A ≤ 600 := by omega
        have HAE := Lib.hid hA
        clear hn8 hb8 HLV hA
        have hwA : IntKind.i64.wrap ((W : Int) - (L0 : Int)) = A := by have := HAE.out; rw [IntKind.wrap_i64]; omega
        gi_wp2_with fail
        refine ⟨trivial, ?_⟩
        refine (callsIn_wide.2 HFR.out).mono ?_
        rintro e w9 ⟨rfl, n9, hw9⟩
        have HB9 := Lib.hid (show Below w4.heap.size w4 w9 from by rw [hw9]; exact ⟨HB8.out.os, HB8.out.tape, HB8.out.output, HB8.out.size, HB8.out.block⟩)
        have HD9 := Lib.hid (show w9.heap[D]? = some (.deferred (some [])) from by rw [hw9]; exact HD8.out)
        have HK9 := Lib.hid (show w9.heap[D2]? = some (.deferred (some [])) from by rw [hw9]; exact HK8.out)
        clear hw9 hc8
        have hAA := HAE.out
        gi_wp2_with fail
        refine ⟨trivial, ?_⟩
        refine (callsIn_wide.2 (known_any _)).mono ?_
        rintro e wk ⟨rfl, hbk⟩
        have HDk := Lib.hid (show wk.heap[D]? = some (.deferred (some [])) from (hbk.block D (Array.getElem?_eq_some_iff.1 HD9.out).1).trans HD9.out)
        have HKk := Lib.hid (show wk.heap[D2]? = some (.deferred (some [])) from (hbk.block D2 (Array.getElem?_eq_some_iff.1 HK9.out).1).trans HK9.out)
        have HBk := Lib.hid (HB9.out.trans (hbk.mono HB9.out.size))
        clear hbk
        gi_wp2_with fail
        refine ⟨by simp, .inl ⟨_, _, rfl, run_takeDeferred HKk.out, ?_⟩⟩
        have hd10 : (wk.putObj D2 (.deferred none)).heap[D]? = some (.deferred (some [])) := (World.putObj_heap_other (by omega)).trans HDk.out
        refine ⟨by simp, .inl ⟨_, _, rfl, run_takeDeferred hd10, ?_⟩⟩
        refine ⟨_, results_tmp rfl _ _ _, rfl, ((HB4.out.trans (HBk.out.mono HB4.out.size)).trans (belowK_b (w := w) (Nat.le_refl _) _ D2 _ _ (by have := HB4.out.size; omega) HKk.out rfl rfl)).trans (belowK_b (w := w) (Nat.le_refl _) _ D _ _ (by have := HB4.out.size; omega) hd10 rfl rfl)⟩
      case stop2 =>
        rintro D2 c pre W' _ _ h _
        exact h.elim
    case stop =>
      rintro D c pre W' _ _ h _
      exact h.elim
end Go.Proofs.Ytjdhjehnofediaa
