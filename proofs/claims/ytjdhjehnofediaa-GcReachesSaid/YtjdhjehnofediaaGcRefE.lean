/- The contract of the reference's Collect. Conditions: the document's memory lies as RT says; the roots are words outside of it. -/
import Derived.Test.YtjdhjehnofediaaGcRefD
import Derived.StillTailTactics
namespace Go.Proofs.Ytjdhjehnofediaa
open Go Go.RowKit
set_option maxRecDepth 100000 in
set_option maxHeartbeats 8000000 in
theorem rcollect_any {w : World} {rb W h : Nat} {now old : List Ob} {v1 v2 : Value} {P1 P2 : List (RO × Value)} (t : RT w rb W h now old v1 P1 v2 P2) {a : Option Addr} {N c : Nat} {ns : List Nat} (hv : WordsV w a N ns) (hno : a = none → c = 0) (hN : N ≤ 100000) (hap : ∀ g off, a = some ⟨g, off, none⟩ → ¬ OwnR rb v1 P1 v2 P2 g) :
    Calls Try.prog 20 #[.pointer (some ⟨rb, 0, none⟩), .slice a N c] w (RCollected w rb W h v1 P1 v2 P2 now ns) := by
  obtain ⟨i0, hi, hz0, hz1, hz2⟩ := info_parts infoU64
  obtain ⟨i1, hi1, hy0, hy1, hy2⟩ := info_parts infoI
  have HRR := Lib.hid (rreach_any t hv hno hN)
  have HT := Lib.hid t
  have HV := Lib.hid hv
  have HAP := Lib.hid hap
  have hnl : now.length ≤ 65536 := by
    have h1 := P_length t.e1
    have h2 := Nat.le_trans (length_le_usedP P1) t.rz.u1
    omega
  clear t hv hno hap
  go_enter Try.func20, Try.ntmps20
  go_wp2_with fail
  refine HRR.out.mono ?_
  rintro e w2 (⟨hr, rfl, hb⟩ | ⟨met, v, hr, rfl, hb, hrow⟩)
  · have HB := Lib.hid hb
    have HR := Lib.hid hr
    clear hb hr HRR
    go_wp2_with fail
    go_ret2
    exact .inl ⟨HR.out, rfl, HB.out⟩
  · have HR := Lib.hid hr
    have hok := reach_okm hr
    have hgd := reach_good hr
    have hml := hok.len
    have ht2 := HT.out.below hb
    have HOK := Lib.hid hok
    have HGD := Lib.hid hgd
    have HROW := Lib.hid hrow
    have HB := Lib.hid hb
    have HZ := Lib.hid ht2.z
    have HFL := Lib.hid (rflip_any ht2.r ht2.rz)
    have HT2 := Lib.hid ht2
    obtain ⟨ua, uc, rfl, huc, huc2⟩ := own_shape5 (own_mono hrow (Nat.zero_le _))
    obtain ⟨L, hL⟩ : ∃ L, met.length = L := ⟨_, rfl⟩
    have HL := Lib.hid hL
    rw [hL] at HROW huc hml ⊢
    clear hr hok hgd ht2 hrow hb hL HRR
    go_wp2_with fail
    refine HFL.out.mono ?_
    rintro e w3 ⟨rfl, hr3, hf3⟩
    have hsm := HB.out.size
    have hx3 : RX w (OwnR rb v1 P1 v2 P2) rb W (1 - h) (pick now (met.take 0)) (oldK (1 - h) W now met (met.take 0)) w3 (.slice none 0 0) [] v1 (P1.map fun p => pT p 0) := by
      have z0 := wf_move HZ.out HOK.out 0
      rw [List.take_zero, oldK_nil] at z0 ⊢
      refine ⟨⟨hr3, z0, rfl, ?_⟩, fun i hi => .inl ?_, (Fr.of_below (O := OwnR rb v1 P1 v2 P2) HB.out).trans hf3 (fun i hi => .inl hi)⟩
      · rw [other2 HZ.out.hh]; exact ros_fresh HZ.out.fresh HT2.out.e1
      · rcases hi with q | q | q
        · exact .inl q
        · exact (ownL_nilE q).elim
        · refine .inr (.inl ?_)
          rcases q with q | ⟨p, hp, q⟩
          · exact .inl q
          · obtain ⟨p0, hp0, rfl⟩ := List.mem_map.1 hp
            exact .inr ⟨p0, hp0, q⟩
    have hap3 : ∀ g, (Value.slice ua L uc).ownBlock = some g → ¬ OwnR rb v1 P1 v2 P2 g := fun g hg q => by
      have h1 := (HROW.out.lt g hg).1
      have h2 := HT.out.r.own_lt g q
      omega
    have hy3 : RY w (OwnR rb v1 P1 v2 P2) rb W (1 - h) (pick now (met.take 0)) (oldK (1 - h) W now met (met.take 0)) w3 (.slice none 0 0) [] v1 (P1.map fun p => pT p 0) (.slice ua L uc) (metI h W now met) (.slice none 0 0) ((met.take 0).map fun j => ((toK (1 - h) W now met j : Nat) : Int)) :=
      ⟨hx3, by rw [metI_length, HL.out]; exact hf3.own HROW.out hap3, World.ownsRow_nil _ _ _ _, fun g hg q => by
        rcases hx3.own g q with a | a
        · exact hap3 g hg a
        · rcases q with q | q | q
          · subst q; exact hap3 g hg (.inl rfl)
          · exact (ownL_nilE q).elim
          · have hq : OwnL v1 P1 g := by
              rcases q with q | ⟨p, hp, q⟩
              · exact .inl q
              · obtain ⟨p0, hp0, rfl⟩ := List.mem_map.1 hp
                exact .inr ⟨p0, hp0, q⟩
            exact hap3 g hg (.inr (.inl hq)), fun g hg => by cases hg⟩
    have HY3 := Lib.hid hy3
    clear hx3 hap3 hy3 hr3 hf3 HFL HROW HT2 HT
    go_wp2_with fail
    go_loopw [8, 9] (fun nv iv wr => ∃ (p : Nat) (uN : Value) (u1 : Value) (Q1 : List (RO × Value)) (u2 : Value) (Q2 : List (RO × Value)), p ≤ L ∧ nv = uN ∧ iv = .int .i64 p ∧ RY w (OwnR rb v1 P1 v2 P2) rb W (1 - h) (pick now (met.take p)) (oldK (1 - h) W now met (met.take p)) wr u1 Q1 u2 Q2 (.slice ua L uc) (metI h W now met) uN ((met.take p).map fun j => ((toK (1 - h) W now met j : Nat) : Int))) (fun _ iv _ => L - (intOf iv).toNat)
    case atStart => exact ⟨0, _, _, _, _, _, Nat.zero_le _, rfl, rfl, HY3.out⟩
    case round =>
      obtain ⟨p, uN, u1, Q1, u2, Q2, hp, rfl, rfl, hy⟩ := hrel
      clear HY3
      have hro := hy.ro
      rw [metI_length, HL.out] at hro
      by_cases hlt : p < L
      · obtain ⟨j, hj⟩ : ∃ j, met[p]? = some j := ⟨_, List.getElem?_eq_getElem (by rw [HL.out]; exact hlt)⟩
        obtain ⟨g, c0, hu, _, _, _, hcx⟩ := int_at hro hlt (metI_get (h := h) (W := W) (os := now) hj)
        injection hu with q1 q2 q3
        subst q1
        have HMV := Lib.hid (hy.x.move HZ.out HOK.out hj)
        have HMT := Lib.hid (map_toK (h := h) (W := W) (now := now) hj)
        have HTB := Lib.hid (toK_le' (k := 1 - h) HZ.out.fresh HOK.out HZ.out.un HZ.out.w1 (List.mem_of_getElem? hj))
        have HY := Lib.hid hy
        have hrn := hy.rn
        have hyl : ((met.take p).map fun j => ((toK (1 - h) W now met j : Nat) : Int)).length = p := by rw [List.length_map, List.length_take, HL.out]; omega
        rw [hyl] at hrn
        obtain ⟨na, nc, rfl, hnc, hnc2⟩ := own_shape5 (own_mono hrn (Nat.zero_le _))
        have HYL := Lib.hid hyl
        have hp0 : (0 : Int) ≤ p := by omega
        have hp1 : (p : Int) < L := by omega
        obtain ⟨A, hA⟩ : ∃ A, objA h W now j = A := ⟨_, rfl⟩
        rw [hA] at hcx HMV
        obtain ⟨T, hT⟩ : ∃ T : Int, ((toK (1 - h) W now met j : Nat) : Int) = T := ⟨_, rfl⟩
        rw [hT] at HMV HMT
        clear hy hj hro q2 q3 hrn hyl hA hT
        go_wp2_with fail
        refine HMV.out.mono ?_
        rintro e w4 ⟨rfl, u1', Q1', Q2', hx4, hs4, hf4⟩
        have hy4 := HY.out.turn hx4 hs4 hf4
        have hrn4 := hy4.rn
        rw [HYL.out] at hrn4
        have HRN4 := Lib.hid hrn4
        have HY4 := Lib.hid hy4
        have HS4 := Lib.hid (show w.heap.size ≤ w4.heap.size from hx4.fr.size)
        clear hx4 hs4 hf4 hy4 hrn4 hcx
        go_wp2_with (at_builtin; refine wpList_append_own_at _ rfl _ _ 23 rfl w.heap.size 3 i1 (.int .i64 0) 1 8 Try.underlying23 hi1 hy0 hy1 hy2 rfl (by decide) (.slice na p nc) _ _ rfl (HRN4.out.alloc _) ⟨w4.heap.size, 0, none⟩ 1 1 [.int .i64 T] rfl rfl (cell_one_new _ _ _) (by simp [Value.oneCell']) (by unfold maxLen; omega) (by omega) (by simp; have := HS4.out; omega) ?_; intro v7 w7 hown7 hgrow7 _ hblk7; have HY7 := Lib.hid (HY4.out.app (w1 := w7) (v' := v7) (t := T) (by rw [HYL.out]; exact hown7) hgrow7 hblk7); clear hown7 hgrow7 hblk7)
        go_roundw
        case rel => exact ⟨p + 1, _, _, _, _, _, hlt, rfl, by go_num, by rw [HMT.out]; exact HY7.out⟩
        case measure => simp [intOf]; omega
      · obtain rfl : p = L := by omega
        rw [List.take_of_length_le (by rw [HL.out]; exact Nat.le_refl _)] at hy
        rw [← newK_zero h W now met] at hy
        have hyl : (met.map fun j => ((toK (1 - h) W now met j : Nat) : Int)).length = p := by rw [List.length_map, HL.out]
        have hrn := hy.rn
        rw [hyl] at hrn
        obtain ⟨na, nc, rfl, hnc, hnc2⟩ := own_shape5 (own_mono hrn (Nat.zero_le _))
        obtain ⟨ys, hys⟩ : ∃ ys, (met.map fun j => ((toK (1 - h) W now met j : Nat) : Int)) = ys := ⟨_, rfl⟩
        rw [hys] at hy hyl
        have HYS := Lib.hid hys
        have HYL := Lib.hid hyl
        have HXL := Lib.hid (show (metI h W now met).length = p from by rw [metI_length, HL.out])
        have HY := Lib.hid hy
        clear hy hro hyl hrn hys
        go_wp2_with fail
        go_loopw [12] (fun iv wr => ∃ (q : Nat) (u1 : Value) (Q1 : List (RO × Value)) (u2 : Value) (Q2 : List (RO × Value)), q ≤ p ∧ iv = .int .i64 q ∧ RY w (OwnR rb v1 P1 v2 P2) rb W (1 - h) (newK h W now met q) (oldK (1 - h) W now met met) wr u1 Q1 u2 Q2 (.slice ua p uc) (metI h W now met) (.slice na p nc) ys) (fun iv _ => p - (intOf iv).toNat)
        case atStart => exact ⟨0, _, _, _, _, Nat.zero_le _, rfl, HY.out⟩
        case round =>
          obtain ⟨q, u1, Q1, u2, Q2, hq, rfl, hy⟩ := hrel
          clear HY
          obtain ⟨b1, k1, hb1, hk1, hk2⟩ := own_shape5 hy.x.t.r.l1.row
          rw [P_length hy.x.t.e1, newK_length, HL.out] at hb1 hk1
          subst hb1
          have hc2 := hy.x.t.r.c2
          by_cases hlt : q < p
          · obtain ⟨j, hj⟩ : ∃ j, met[q]? = some j := ⟨_, List.getElem?_eq_getElem (by rw [HL.out]; exact hlt)⟩
            have hjm := List.mem_of_getElem? hj
            have ho := obAt_get (HOK.out.lt j hjm)
            have hbd := right_bd (HZ.out.okn _ (List.mem_of_getElem? ho)).right
            obtain ⟨_, _, _, hsz, _, hts⟩ := hbd
            have hwd := (HZ.out.okn _ (List.mem_of_getElem? ho)).word
            have hg2 : ∀ k, k < (obAt now j).t → Good now h W met ((obAt now j).ws.getD k 0) := fun k hk => by
              refine HGD.out.2 j hjm _ ?_
              rw [tagW_eq ho, List.getD_eq_getElem?_getD, List.getElem?_eq_getElem (by omega)]
              exact List.mem_take_iff_getElem.2 ⟨k, by omega, rfl⟩
            rw [← newK_set0 hj] at hy
            obtain ⟨o, hoo⟩ : ∃ o, obAt now j = o := ⟨_, rfl⟩
            have hput := newK_put (h := h) (W := W) (os := now) hj
            rw [hoo] at hy hsz hts hwd hg2 hput
            have hlen : q < (newK h W now met q).length := by rw [newK_length, HL.out]; exact hlt
            have HPUT := Lib.hid hput
            have HLEN := Lib.hid hlen
            have HG2 := Lib.hid hg2
            have HWD := Lib.hid hwd
            have HY2 := Lib.hid hy
            obtain ⟨T, hT⟩ : ∃ T, o.t = T := ⟨_, rfl⟩
            have HTT := Lib.hid hT
            have hts' : T ≤ o.ws.length := by omega
            have HTS := Lib.hid hts'
            have hTb : T ≤ 16384 := by omega
            have hq0 : (0 : Int) ≤ q := by omega
            have hq1 : (q : Int) < p := by omega
            clear hj hjm ho hwd hg2 hoo hput hlen hy hT hsz hts hts'
            go_wp2_with fail
            go_loopw [13] (fun fv wr => ∃ (k : Nat) (u1 : Value) (Q1 : List (RO × Value)) (u2 : Value) (Q2 : List (RO × Value)), k ≤ T ∧ fv = .int .i64 k ∧ RY w (OwnR rb v1 P1 v2 P2) rb W (1 - h) ((newK h W now met q).set q (renO h W now met o k)) (oldK (1 - h) W now met met) wr u1 Q1 u2 Q2 (.slice ua p uc) (metI h W now met) (.slice na p nc) ys) (fun fv _ => T - (intOf fv).toNat)
            case atStart => exact ⟨0, _, _, _, _, Nat.zero_le _, rfl, HY2.out⟩
            case round =>
              obtain ⟨k, u1, Q1, u2, Q2, hk, rfl, hy⟩ := hrel
              clear HY2 hc2 hk1 hk2
              have hge : ((newK h W now met q).set q (renO h W now met o k))[q]? = some (renO h W now met o k) := List.getElem?_set_self HLEN.out
              by_cases hlt2 : k < T
              · have hkw : k < o.ws.length := by have := HTS.out; omega
                obtain ⟨g, cap, g2, wc, q0, rfl, hc1, hc3, d2, dt, dw, dc1, dc2, dk, dfz, hq0', hq2⟩ := hy.x.field (k := k) hge (by rw [renO_len]; exact hkw)
                rw [List.length_set, newK_length, HL.out] at hc1 d2
                rw [renO_len] at dw dc1 hq2
                rw [renO_get hkw] at dk
                have dt' : wr.cell? ⟨g, q * 5 + 2, none⟩ = some (.int .i64 (T : Int)) := by rw [← HTT.out]; exact dt
                obtain ⟨n, hn⟩ : ∃ n, o.ws.getD k 0 = n := ⟨_, rfl⟩
                have hgn := HG2.out k (by rw [HTT.out]; exact hlt2)
                rw [hn] at dk hgn
                have hn64 : n < 18446744073709551616 := HWD.out n (by rw [← hn, List.getD_eq_getElem?_getD, List.getElem?_eq_getElem hkw]; exact List.getElem_mem _)
                have hrw := renW_lt HZ.out HOK.out hn64
                have hmz := movedZ_ren HZ.out HOK.out hgn
                rw [HYS.out] at hmz
                have hro := hy.ro
                rw [HXL.out] at hro
                have hrn := hy.rn
                rw [HYL.out] at hrn
                have hmv := rmoved_any hro.drew hrn.drew HXL.out HYL.out (by omega) n
                rw [hmz] at hmv
                have hxw := hy.x.word (k := k) hge hq0' hq2 hrw
                have hset : ((newK h W now met q).set q (renO h W now met o k)).set q { renO h W now met o k with ws := (renO h W now met o k).ws.set k (renW h W now met n) } = (newK h W now met q).set q (renO h W now met o (k + 1)) := by rw [← hn, renO_set hkw, List.set_set]
                rw [hset] at hxw
                obtain ⟨R, hR⟩ : ∃ R, renW h W now met n = R := ⟨_, rfl⟩
                rw [hR] at hmv hxw
                obtain ⟨OS, hOS⟩ : ∃ OS, o.ws.length = OS := ⟨_, rfl⟩
                rw [hOS] at dw dc1 hkw
                have HMV := Lib.hid hmv
                have HXW := Lib.hid hxw
                have HY4 := Lib.hid hy
                have hk0 : (0 : Int) ≤ k := by omega
                have hk1 : (k : Int) < OS := by omega
                have hkT : (k : Int) < T := by omega
                clear hy hge dt hn hgn hn64 hrw hmz hro hrn hmv hxw hset hR hOS hq0' hq2
                go_wp2_with fail
                refine wp_region_still_tail 24 (by kernel_rfl) (by kernel_rfl) ?_
                simp only [List.take_succ_cons, List.take_zero, List.drop_succ_cons, List.drop_zero]
                repeat still_step
                still_call (HMV.out)
                repeat still_step
                refine wpStill_nil ?_
                go_wp2_with fail
                have HY6 := Lib.hid (HY4.out.turn (HXW.out.1.kept ((Fr.refl (fun _ => False) _).drew) (fun _ q => q.elim) (fun _ _ q => q)) (fun i hi => .inl (HXW.out.2.2 i hi)) (((Fr.refl (OwnR rb (.slice (some ⟨g, 0, none⟩) p cap) Q1 u2 Q2) wr).setCell (p := ⟨g2, k, none⟩) (.inl HXW.out.2.1) _).drew))
                go_roundw
                case rel => exact ⟨k + 1, _, _, _, _, hlt2, by go_num, HY6.out⟩
                case measure => simp [intOf]; omega
              · obtain rfl : k = T := by omega
                obtain ⟨g, cap, wa, wc, hu1, hc1, hc3, hat, _⟩ := hy.x.t.words hge
                rw [List.length_set, newK_length, HL.out] at hu1 hc1
                subst hu1
                have d2 := hy.x.t.r.c2
                have dt : wr.cell? ⟨g, q * 5 + 2, none⟩ = some (.int .i64 (k : Int)) := by
                  have := hat.c2
                  rw [← HTT.out]
                  exact this
                have hpt := HPUT.out
                rw [HTT.out] at hpt
                rw [hpt] at hy
                have HY4 := Lib.hid hy
                clear hy hge hat hpt
                go_wp2_with fail
                go_roundw
                case rel => exact ⟨q + 1, _, _, _, _, hlt, by go_num, HY4.out⟩
                case measure => simp [intOf]; omega
          · obtain rfl : q = p := by omega
            have hnf := newK_end h W now met
            rw [HL.out] at hnf
            rw [hnf] at hy
            have hv5 : ∀ j n, ns[j]? = some n → ∃ g off, a = some ⟨g, off, none⟩ ∧ ¬ OwnR rb v1 P1 v2 P2 g := fun j n hj => by
              obtain ⟨g, off, e, _, _⟩ := HV.out.cell j n hj
              exact ⟨g, off, e, HAP.out g off e⟩
            have HU5 := Lib.hid (show RU w (OwnR rb v1 P1 v2 P2) rb W (1 - h) (newF h W now met) (oldK (1 - h) W now met met) wr _ Q1 u2 Q2 (.slice ua q uc) (metI h W now met) (.slice na q nc) ys (.slice none 0 0) ((ns.take 0).map (renW h W now met)) from ⟨hy, World.ownsRow_nil _ _ _ _, fun g hg => by cases hg⟩)
            have hvl := HV.out.len
            clear hy hnf hv5
            go_wp2_with fail
            go_loopw [14, 15] (fun ov iv wr => ∃ (k : Nat) (v : Value) (u1 : Value) (Q1 : List (RO × Value)) (u2 : Value) (Q2 : List (RO × Value)), k ≤ N ∧ ov = v ∧ iv = .int .i64 k ∧ RU w (OwnR rb v1 P1 v2 P2) rb W (1 - h) (newF h W now met) (oldK (1 - h) W now met met) wr u1 Q1 u2 Q2 (.slice ua q uc) (metI h W now met) (.slice na q nc) ys v ((ns.take k).map (renW h W now met))) (fun _ iv _ => N - (intOf iv).toNat)
            case atStart => exact ⟨0, _, _, _, _, _, Nat.zero_le _, rfl, rfl, HU5.out⟩
            case round =>
              obtain ⟨k, v, u1, Q1, u2, Q2, hk, rfl, rfl, hu⟩ := hrel
              clear HU5 hc2 hk1 hk2
              by_cases hlt2 : k < N
              · obtain ⟨n, hn⟩ : ∃ n, ns[k]? = some n := ⟨_, List.getElem?_eq_getElem (by rw [hvl]; exact hlt2)⟩
                have hwv := wordsV_fr HV.out hu.y.x.fr HAP.out
                obtain ⟨g, off, ha, hg, hcl⟩ := hwv.cell k n hn
                subst ha
                have hmz := movedZ_ren HZ.out HOK.out (HGD.out.1 n (List.mem_of_getElem? hn))
                rw [HYS.out] at hmz
                have hro := hu.y.ro
                rw [HXL.out] at hro
                have hrn := hu.y.rn
                rw [HYL.out] at hrn
                have hmv := rmoved_any hro hrn HXL.out HYL.out (by omega) n
                rw [hmz] at hmv
                have hwl : ((ns.take k).map (renW h W now met)).length = k := by rw [List.length_map, List.length_take, hvl]; omega
                have hru := hu.ru
                rw [hwl] at hru
                obtain ⟨oa, oc, rfl, hoc, hoc2⟩ := own_shape5 (own_mono hru (Nat.zero_le _))
                have hsn : (ns.take (k + 1)).map (renW h W now met) = (ns.take k).map (renW h W now met) ++ [renW h W now met n] := by rw [take_snoc hn, List.map_append]; rfl
                obtain ⟨R, hR⟩ : ∃ R, renW h W now met n = R := ⟨_, rfl⟩
                rw [hR] at hmv hsn
                have HMV := Lib.hid hmv
                have HRU := Lib.hid hru
                have HU := Lib.hid hu
                have HWL := Lib.hid hwl
                have HSN := Lib.hid hsn
                have HS := Lib.hid (show w.heap.size ≤ wr.heap.size from hu.y.x.fr.size)
                have hk0 : (0 : Int) ≤ k := by omega
                have hk1 : (k : Int) < N := by omega
                clear hn hwv hg hmz hro hrn hmv hwl hru hsn hu hR
                go_wp2_with fail
                refine HMV.out.mono ?_
                rintro e w' ⟨rfl, hww⟩
                subst w'
                go_wp2_with (at_builtin; refine wpList_append_own_at _ rfl _ _ 32 rfl w.heap.size 56 i0 (.int .u64 0) 1 8 Try.underlying32 hi hz0 hz1 hz2 rfl (by decide) (.slice oa k oc) _ _ rfl (HRU.out.alloc _) ⟨wr.heap.size, 0, none⟩ 1 1 [.int .u64 (R : Int)] rfl rfl (cell_one_new _ _ _) (by simp [Value.oneCell']) (by unfold maxLen; omega) (by omega) (by simp; have := HS.out; omega) ?_; intro v7 w7 hown7 hgrow7 _ hblk7; have HU7 := Lib.hid (HU.out.app (w1 := w7) (v' := v7) (n := R) (by rw [HWL.out]; exact hown7) hgrow7 hblk7); clear hown7 hgrow7 hblk7)
                go_roundw
                case rel => exact ⟨k + 1, _, _, _, _, _, hlt2, rfl, by go_num, by rw [HSN.out]; exact HU7.out⟩
                case measure => simp [intOf]; omega
              · obtain rfl : k = N := by omega
                rw [List.take_of_length_le (by omega)] at hu
                have HU := Lib.hid hu
                clear hu
                go_wp2_with fail
                go_ret2
                exact .inr ⟨met, _, _, _, _, _, HR.out, rfl, HU.out.y.x, by have q := HU.out.ru; rw [List.length_map] at q; exact q, fun g hg => (HU.out.au g hg).1⟩
end Go.Proofs.Ytjdhjehnofediaa
