/- The contract of the reference's Made. Conditions: the list of objects lies as ObsV says, each right, in a memory that has room. -/
import Derived.Test.YtjdhjehnofediaaMemTwin
import Derived.Test.YtjdhjehnofediaaGcMade
import Derived.Test.YtjdhjehnofediaaRmB
namespace Go.Proofs.Ytjdhjehnofediaa
open Go Go.RowKit
/-- the document's memory, made since w -/
structure RW (w : World) (b W : Nat) (os : List Ob) (wr : World) (v : Value) (P : List (RO × Value)) : Prop where
  r : RM wr b W 0 v P (.slice none 0 0) []
  e : P.map Prod.fst = ros 0 W os
  z : WF W 0 os []
  ge : ∀ i, OwnR b v P (.slice none 0 0) [] i → w.heap.size ≤ i
  fr : Below w.heap.size w wr
theorem RW.rz {w wr : World} {b W : Nat} {os : List Ob} {v : Value} {P : List (RO × Value)} (x : RW w b W os wr v P) : RZ W 0 P [] := by
  have h1 := x.z.un
  have h3 := x.z.w1
  exact ⟨h3, x.z.hh, by rw [P_used x.e]; omega, by simp [usedP]⟩
theorem RW.drewN {w wr : World} {b W : Nat} {os : List Ob} {v : Value} {P : List (RO × Value)} (x : RW w b W os wr v P) (n : Nat) : RW w b W os (wr.drewN n) v P := ⟨x.r.drewN n, x.e, x.z, x.ge, ⟨x.fr.os, x.fr.tape, x.fr.output, x.fr.size, x.fr.block⟩⟩
theorem RW.below {w wr w1 : World} {b W : Nat} {os : List Ob} {v : Value} {P : List (RO × Value)} (x : RW w b W os wr v P) (hb : Below wr.heap.size wr w1) : RW w b W os w1 v P := ⟨x.r.below hb, x.e, x.z, x.ge, x.fr.trans (hb.mono x.fr.size)⟩
theorem ownL_none {i : Nat} (h : OwnL (.slice none 0 0) [] i) : False := by
  rcases h with h | ⟨p, hp, _⟩
  · cases h
  · cases hp
theorem ownR_nil {b : Nat} (i : Nat) (h : OwnR b (.slice none 0 0) [] (.slice none 0 0) [] i) : i = b := by
  rcases h with h | h | h
  · exact h
  · exact (ownL_none h).elim
  · exact (ownL_none h).elim
theorem RW.new {w wr : World} {b W : Nat} (h0 : 64 ≤ W) (h1 : W ≤ 65536) (hblk : wr.heap[b]? = some (.cells #[.int .i64 W, .int .i64 0, .slice none 0 0, .slice none 0 0] 30 (0, 0))) (hb : w.heap.size ≤ b) (hf : Below w.heap.size w wr) : RW w b W [] wr (.slice none 0 0) [] :=
  ⟨⟨hblk, RL.nil _, RL.nil _, fun h => ownL_none h, fun h => ownL_none h, fun i h => (ownL_none h).elim⟩, rfl, wf_new h0 h1, fun i hi => by rw [ownR_nil i hi]; exact hb, hf⟩
theorem RW.alloc {w wr w1 : World} {b W k s t : Nat} {os : List Ob} {v v' u : Value} {P : List (RO × Value)} (x : RW w b W os wr v P) (hr : rightB k s t = true) (hf : used os + s + 1 ≤ W)
    (r1 : RM w1 b W 0 v' (P ++ [(⟨adr 0 W (usedP P), k, t, newL s t, 0⟩, u)]) (.slice none 0 0) []) (s1 : ∀ i, OwnR b v' (P ++ [(⟨adr 0 W (usedP P), k, t, newL s t, 0⟩, u)]) (.slice none 0 0) [] i → OwnR b v P (.slice none 0 0) [] i ∨ wr.heap.size ≤ i) (f1 : Fr (OwnR b v P (.slice none 0 0) []) wr w1) :
    RW w b W (os ++ [newOb k s t]) w1 v' (P ++ [(⟨adr 0 W (usedP P), k, t, newL s t, 0⟩, u)]) :=
  ⟨r1, by rw [List.map_append, x.e, ros_snoc, P_used x.e]; rfl, wf_alloc x.z hr hf, fun i hi => by
    rcases s1 i hi with a | a
    · exact x.ge i a
    · exact Nat.le_trans x.fr.size a, x.fr.trans (f1.below x.fr.size x.ge)⟩
theorem RW.store {w wr w1 : World} {b W j i n : Nat} {os : List Ob} {o : Ob} {v : Value} {P : List (RO × Value)} {p : RO × Value} (x : RW w b W os wr v P) (ho : os[j]? = some o) (hp : P[j]? = some p) (hn : n < 18446744073709551616)
    (r1 : RM w1 b W 0 v (P.set j (pW p i n)) (.slice none 0 0) []) (f1 : Fr (OwnR b v P (.slice none 0 0) []) wr w1) :
    RW w b W (os.set j { o with ws := o.ws.set i n }) w1 v (P.set j (pW p i n)) := by
  have hro : p.1 = roOf (objA 0 W os j) o := by
    obtain ⟨u, h2⟩ := P_get x.e ho
    rw [hp] at h2
    rw [Option.some.inj h2]
  have z1 := wf_setF (i := i) x.z ho hn
  rw [setF_eq ho] at z1
  refine ⟨r1, ?_, z1, fun q hq => ?_, x.fr.trans (f1.below x.fr.size x.ge)⟩
  · rw [List.map_set, x.e, ros_set ho (by simp)]
    show (ros 0 W os).set j { p.1 with ws := p.1.ws.set i n } = _
    rw [hro]
    rfl
  · refine x.ge q ?_
    rcases hq with a | a | a
    · exact .inl a
    · exact .inr (.inl (own_set_word hp q a))
    · exact .inr (.inr a)
set_option maxRecDepth 100000 in
set_option maxHeartbeats 8000000 in
theorem rmade_any {w : World} {a : Option Addr} {N c W : Nat} {os : List O4} (hv : ObsV w a N os) (r : HeapR os W) :
    Calls Try.prog 16 #[.slice a N c, .int .i64 (W : Int)] w fun e w' => ∃ b v P, e = .returned (.agg #[.int .i64 W, .int .i64 0, v, .slice none 0 0]) ∧ RW w b W (heapObs os) w' v P := by
  have hl := hv.len
  have h40 := hv.few
  obtain ⟨hW0, hW1⟩ := r.size (by omega) hv.short
  have HNW := Lib.hid (rnew_ok W hW0 (by omega))
  have HV := Lib.hid hv
  have HR := Lib.hid r
  clear hv r
  go_enter Try.func16, Try.ntmps16
  go_wp2_with fail
  refine (HNW.out _).mono ?_
  rintro e w1 ⟨rfl, hb1⟩
  have hr1 := (hb1.block w.heap.size (by simp)).trans (heap_alloc_new w _)
  have hs1 := hb1.size
  rw [World.size_alloc] at hs1
  have HB1 := Lib.hid (((Below.refl _ w).alloc (Nat.le_refl _) _).trans (hb1.mono (by simp)))
  have HR1 := Lib.hid hr1
  clear hb1 HNW hr1
  go_wp2_with fail
  have HM1 := Lib.hid (show RW w1 w1.heap.size W [] (w1.alloc (.cells #[.int .i64 W, .int .i64 0, .slice none 0 0, .slice none 0 0] 30)) (.slice none 0 0) [] from RW.new hW0 (by omega) (heap_alloc_new _ _) (Nat.le_refl _) ((Below.refl _ w1).alloc (Nat.le_refl _) _))
  obtain ⟨b, hb⟩ : ∃ b, w1.heap.size = b := ⟨_, rfl⟩
  rw [hb] at HM1 hs1
  have HBE := Lib.hid hb
  rw [hb]
  clear hb
  go_loopw [7] (fun i wr => ∃ (j : Nat) (v : Value) (P : List (RO × Value)), j ≤ N ∧ i = .int .i64 j ∧ RW w1 b W (obA os j) wr v P) (fun i _ => N - (intOf i).toNat)
  case atStart => exact ⟨0, _, _, Nat.zero_le _, rfl, HM1.out⟩
  case round =>
    obtain ⟨j, v, P, hj, rfl, hm⟩ := hrel
    clear HM1
    by_cases hlt : j < N
    · obtain ⟨o, ho⟩ : ∃ o, os[j]? = some o := ⟨_, List.getElem?_eq_getElem (by omega)⟩
      have hmo := List.mem_of_getElem? ho
      have hvr := (HV.out.below HB1.out).below (w1 := wr) hm.fr
      obtain ⟨g, off, fa, fc, rfl, hg, c0, c1, c2, c3, hfs⟩ := hvr.at_ j o ho
      have hsh := HV.out.short o hmo
      obtain ⟨hk0, ht0, _⟩ := HR.out.right o hmo
      have hfit := HR.out.fits ho
      have HAL := Lib.hid (fun n => ralloc_ok (hm.drewN n).r hm.rz o.k.toNat o.fs.length o.t.toNat (HR.out.right' hmo) (by rw [P_used hm.e]; exact hfit))
      have hk1 : ((o.k.toNat : Nat) : Int) = o.k := by omega
      have ht1 : ((o.t.toNat : Nat) : Int) = o.t := by omega
      have HMW := Lib.hid (fun n => hm.drewN n)
      have HNX := Lib.hid (obA_succ ho)
      have HRF := Lib.hid (And.intro (HR.out.right' hmo) hfit)
      obtain ⟨S, hS⟩ : ∃ S, o.fs.length = S := ⟨_, rfl⟩
      rw [hS] at HAL HNX HRF c2 hsh
      obtain ⟨kd, hkd⟩ : ∃ kd, o.k.toNat = kd := ⟨_, rfl⟩
      obtain ⟨t, ht⟩ : ∃ t, o.t.toNat = t := ⟨_, rfl⟩
      rw [← ht1, ht] at c1
      rw [← hk1, hkd] at c0
      rw [hkd, ht] at HAL HNX HRF
      have hji : (j : Int) < N := by omega
      have hj0 : (0 : Int) ≤ j := by omega
      clear hm hvr hfs hg ho hmo hk0 ht0 hS ht hkd hsh hk1 ht1 hfit
      go_wp2_with fail
      go_region_law ((go_simp; go_at_call 47; refine (HAL.out _).mono ?_; rintro e w3 ⟨rfl, v3, u3, m3, s3, f3⟩))
      all_goals
        have HM3 := Lib.hid ((HMW.out _).alloc HRF.out.1 HRF.out.2 m3 s3 f3)
        clear m3 s3 f3 c0 c1 c2 c3
        go_wp2_with fail
        go_roundw
        case rel => exact ⟨j + 1, _, _, hlt, by go_num, by rw [HNX.out]; exact HM3.out⟩
        case measure => simp [intOf]; omega
    · obtain rfl : j = N := by omega
      have HJ0 := Lib.hid (show RW w1 b W (obJ os 0) wr v P from by rw [obJ_zero, hl]; exact hm)
      clear hm
      go_wp2_with fail
      go_loopw [8] (fun i wx => ∃ (q : Nat) (v : Value) (P : List (RO × Value)), q ≤ j ∧ i = .int .i64 q ∧ RW w1 b W (obJ os q) wx v P) (fun i _ => j - (intOf i).toNat)
      case atStart => exact ⟨0, _, _, Nat.zero_le _, rfl, HJ0.out⟩
      case round =>
        obtain ⟨q, v, P, hq, rfl, hm⟩ := hrel
        clear HJ0
        by_cases hlt2 : q < j
        · obtain ⟨o, ho⟩ : ∃ o, os[q]? = some o := ⟨_, List.getElem?_eq_getElem (by omega)⟩
          have hmo := List.mem_of_getElem? ho
          have htl := HR.out.tle hmo
          have hsh := HV.out.short o hmo
          have hrg := HR.out.rng o hmo
          rw [obJ_obM ho] at hm
          have HQ := Lib.hid hm
          have HO := Lib.hid ho
          obtain ⟨S, hS⟩ : ∃ S, o.fs.length = S := ⟨_, rfl⟩
          have HS := Lib.hid hS
          rw [hS] at hsh
          have hqi : (q : Int) < j := by omega
          have hq0 : (0 : Int) ≤ q := by omega
          clear hm ho hS
          go_wp2_with fail
          go_loopw [9] (fun i wx => ∃ (k : Nat) (v : Value) (P : List (RO × Value)), k ≤ S ∧ i = .int .i64 k ∧ RW w1 b W (obM os q o k) wx v P) (fun i _ => S - (intOf i).toNat)
          case atStart => exact ⟨0, _, _, Nat.zero_le _, rfl, HQ.out⟩
          case round =>
            obtain ⟨k, v, P, hk, rfl, hm⟩ := hrel
            clear HQ
            have hvr := (HV.out.below HB1.out).below (w1 := wr) hm.fr
            obtain ⟨g, off, fa, fc, rfl, hg, c0, c1, c2, c3, hfs⟩ := hvr.at_ q o HO.out
            rw [HS.out] at c2
            have hsti := start_obM HR.out HO.out (k := k) (by rw [HS.out]; exact hk)
            have HMM := Lib.hid hm
            clear hfs c0 c1 c3 hg
            by_cases hlt3 : k < S
            · have HAT := Lib.hid (at_any (c := c) hvr q (by omega))
              have hkl : k < o.fs.length := by rw [HS.out]; exact hlt3
              have hrx := hrg (o.fs.getD k 0) (by rw [List.getD_eq_getElem?_getD, List.getElem?_eq_getElem hkl]; exact List.getElem_mem _)
              have HWD := Lib.hid (word_any (c := c) hvr HO.out hkl hrx.1)
              obtain ⟨x0, x1⟩ := wordW_bd os q k
              obtain ⟨X, hX⟩ : ∃ X : Nat, wordW os q k = X := ⟨(wordW os q k).toNat, by omega⟩
              have HX := Lib.hid hX
              rw [hX] at HWD x0 x1
              obtain ⟨A, hA⟩ : ∃ A, addr4 os q = A := ⟨_, rfl⟩
              rw [hA] at HAT hsti
              have hge := obM_get (os := os) (j := q) (k := k) (o := o) (by rw [hl]; exact hlt2)
              have hidx : fidx P (A : Int) = some q := by
                rw [P_idx hm.e]
                have := idxAt_of (os := obM os q o k) (h := 0) (W := W) (j := q) (List.getElem?_eq_some_iff.1 hge).1
                rw [adr_0, show ((start (obM os q o k) q : Nat) : Int) + 1 = (A : Int) by omega] at this
                exact this
              obtain ⟨u0, hp0⟩ := P_get hm.e hge
              have HST := Lib.hid (fun (W1 : World) (hb : Below wr.heap.size wr W1) => rstore_hit (hm.r.below hb) hm.rz (A : Int) k X hidx hp0 (by show k < (obP os q o k).ws.length; rw [obP_len htl (Nat.le_of_lt hkl)]; exact hkl))
              have HP0 := Lib.hid hp0
              have hki : (k : Int) < S := by omega
              have hk0 : (0 : Int) ≤ k := by omega
              clear hm hrx hX hA hidx hsti hp0 hge
              go_wp2_with fail
              refine HAT.out.mono ?_
              rintro e w4 ⟨rfl, hw⟩
              subst w4
              go_wp2_with fail
              refine HWD.out.mono ?_
              rintro e w5 ⟨rfl, hb5⟩
              have HST5 := Lib.hid (HST.out w5 hb5)
              have HM5 := Lib.hid hb5
              clear hb5
              go_wp2_with fail
              refine HST5.out.mono ?_
              rintro e w6 ⟨rfl, m6, f6⟩
              have HM6 := Lib.hid (show RW w1 b W (obM os q o (k + 1)) w6 v _ from by
                have hg := obM_get (os := os) (j := q) (k := k) (o := o) (by rw [hl]; exact hlt2)
                have q6 := (HMM.out.below HM5.out).store (n := X) (i := k) hg HP0.out (by omega) m6 f6
                have e1 : (obM os q o k).set q { obP os q o k with ws := (obP os q o k).ws.set k X } = obM os q o (k + 1) := by
                  rw [obM_set (by rw [hl]; exact hlt2), show X = (wordW os q k).toNat from by rw [HX.out]; rfl, obP_set htl hkl]
                  rfl
                rw [e1] at q6
                exact q6)
              clear m6 f6
              go_wp2_with fail
              go_roundw
              case rel => exact ⟨k + 1, _, _, hlt3, by go_num, HM6.out⟩
              case measure => simp [intOf]; omega
            · obtain rfl : k = S := by omega
              have HE := Lib.hid (show RW w1 b W (obJ os (q + 1)) wr v P from by
                have := hm
                rw [← HS.out, obM_obJ HO.out htl] at this
                exact this)
              clear hm hsti
              go_wp2_with fail
              go_roundw
              case rel => exact ⟨q + 1, _, _, hlt2, by go_num, HE.out⟩
              case measure => simp [intOf]; omega
        · obtain rfl : q = j := by omega
          have hm' : RW w1 b W (heapObs os) wr v P := by rw [← obJ_end, hl]; exact hm
          have hrb : wr.heap[w.heap.size]? = some (.cells #[.int .i64 0, .int .i64 0, .slice none 0 0, .slice none 0 0] 30 (0, 0)) := (hm'.fr.block w.heap.size (by have := HBE.out; omega)).trans HR1.out
          obtain ⟨va, vc, hve, _, _⟩ := own_shape5 hm'.r.l1.row
          obtain ⟨PL, hPL⟩ : ∃ PL, P.length = PL := ⟨_, rfl⟩
          rw [hPL] at hve
          subst hve
          have hw0 : w.heap.size < wr.heap.size := (Array.getElem?_eq_some_iff.1 hrb).1
          have hfr : Fr (· = w.heap.size) wr ((((wr.setCell ⟨w.heap.size, 0, none⟩ (.int .i64 W)).setCell ⟨w.heap.size, 1, none⟩ (.int .i64 0)).setCell ⟨w.heap.size, 2, none⟩ (.slice va PL vc)).setCell ⟨w.heap.size, 3, none⟩ (.slice none 0 0)) :=
            ((((Fr.refl (· = w.heap.size) wr).setCell (p := ⟨w.heap.size, 0, none⟩) (.inl rfl) _).setCell (p := ⟨w.heap.size, 1, none⟩) (.inl rfl) _).setCell (p := ⟨w.heap.size, 2, none⟩) (.inl rfl) _).setCell (p := ⟨w.heap.size, 3, none⟩) (.inl rfl) _
          have hbl := blk_set (blk_set (blk_set (blk_set hrb 0 (.int .i64 W)) 1 (.int .i64 0)) 2 (.slice va PL vc)) 3 (.slice none 0 0)
          obtain ⟨Wf, hWf⟩ : ∃ Wf, ((((wr.setCell ⟨w.heap.size, 0, none⟩ (.int .i64 W)).setCell ⟨w.heap.size, 1, none⟩ (.int .i64 0)).setCell ⟨w.heap.size, 2, none⟩ (.slice va PL vc)).setCell ⟨w.heap.size, 3, none⟩ (.slice none 0 0)) = Wf := ⟨_, rfl⟩
          rw [hWf] at hfr hbl
          have HP := Lib.hid (show RW w b W (heapObs os) Wf (.slice va PL vc) P from
            ⟨hm'.r.kept hfr (fun i hi e => by have := hm'.ge i hi; have := HBE.out; omega), hm'.e, hm'.z, fun i hi => by have := hm'.ge i hi; have := HBE.out; omega,
              (HB1.out.trans (hm'.fr.mono HB1.out.size)).trans (hfr.below (Nat.le_of_lt hw0) (fun i hi => Nat.le_of_eq hi.symm))⟩)
          have f0 := blk_cell hbl 0
          have f1 := blk_cell hbl 1
          have f2 := blk_cell hbl 2
          have f3 := blk_cell hbl 3
          have HWF := Lib.hid hWf
          have r0 := hm'.r.c0
          have r1 := hm'.r.c1
          have r2 := hm'.r.c2
          have r3 := hm'.r.c3
          have HE := Lib.hid hm'
          have HRB := Lib.hid hrb
          have t0 := blk_free hrb 0
          have t1 := blk_free hrb 1
          have t2 := blk_free hrb 2
          have t3 := blk_free hrb 3
          have s0 := blk_cell hrb 0
          have s1 := blk_cell hrb 1
          have s2 := blk_cell hrb 2
          have s3 := blk_cell hrb 3
          clear hm hm' hrb hPL hfr hbl hWf
          go_wp2_with fail
          rw [HWF.out]
          exact bodyPost_ret (v := .agg #[.int .i64 W, .int .i64 0, .slice va PL vc, .slice none 0 0]) (by simp [results, Try.results16, go_sem, f0, f1, f2, f3]) rfl ⟨b, _, P, rfl, HP.out⟩
end Go.Proofs.Ytjdhjehnofediaa
