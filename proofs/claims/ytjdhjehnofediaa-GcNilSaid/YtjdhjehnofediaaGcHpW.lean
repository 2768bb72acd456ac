/- The contract of the reference's Heap. Condition: the list came in as ArgV says. -/
import Derived.Test.YtjdhjehnofediaaGcHp
import Derived.Deep.CutBlock
namespace Go.Proofs.Ytjdhjehnofediaa
open Go Go.RowKit
theorem infoObj4 : (Try.prog.info? 71).map (fun i => (i.zero, i.size, i.bytes)) = some (some (.agg #[.int .i64 0, .int .i64 0, .slice none 0 0, .int .i64 0]), 4, 48) := by kernel_rfl
theorem infoInt4 : (Try.prog.info? 3).map (fun i => (i.zero, i.size, i.bytes)) = some (some (.int .i64 0), 1, 8) := by kernel_rfl
set_option maxRecDepth 100000 in
set_option maxHeartbeats 8000000 in
theorem heap_any {w : World} {a : Option Addr} {N c : Nat} {rs : List O4} (hv : ArgV w a N rs) :
    Calls Try.prog 14 #[.slice a N c] w fun e w' => ∃ a' c', e = .returned (.tuple #[.slice a' (heapO rs).length c', .int .i64 (heapW rs : Nat)]) ∧ ObsV w' a' (heapO rs).length (heapO rs) ∧ Below w.heap.size w w' := by
  obtain ⟨i0, hi, hz0, hz1, hz2⟩ := info_parts infoInt4
  obtain ⟨i4, hi4, hy0, hy1, hy2⟩ := info_parts infoObj4
  have hl := hv.len
  have hfew := hv.few
  have HV := Lib.hid hv
  clear hv
  go_enter Try.func14, Try.ntmps14
  go_wp2_with fail
  go_loopw [4, 5, 6] (fun o n i wr => ∃ (k : Nat) (Q : List (O4 × Value)), k ≤ N ∧ k ≤ 40 ∧ i = .int .i64 k ∧ n = .int .i64 ((63 + addr4 (heapL rs k) (heapL rs k).length : Nat) : Int) ∧ HP w o Q wr ∧ Q.map Prod.fst = heapL rs k) (fun _ _ i _ => 40 - (intOf i).toNat)
  case atStart => exact ⟨0, [], Nat.zero_le _, Nat.zero_le _, rfl, rfl, HP.nil w, rfl⟩
  case round =>
    obtain ⟨k, Q, hk, hk40, rfl, rfl, hp, hq⟩ := hrel
    by_cases hlt : k < N
    · by_cases hlt2 : k < 40
      · obtain ⟨o, ho⟩ : ∃ o, rs[k]? = some o := ⟨_, List.getElem?_eq_getElem (by omega)⟩
        obtain ⟨g, off, fa, fc, ha, hg, c0, c1, c2, c3, hfc1, hfc2, hfn, hcell⟩ := HV.out.at_ k o ho
        subst ha
        have cc : ∀ (q : Nat) (u : Value), w.cell? ⟨g, q, none⟩ = some u → wr.cell? ⟨g, q, none⟩ = some u := fun q u hu => (World.cell?_of_block (hp.base.block g hg)).trans hu
        have d0 := cc _ _ c0
        have d1 := cc _ _ c1
        have d2 := cc _ _ c2
        have d3 := cc _ _ c3
        have HA := Lib.hid (fun W1 => among_is o.k 5 (by decide) (by decide) W1)
        have HCE := Lib.hid (fun (W1 : World) (hb : Below wr.heap.size wr W1) (f : Nat) (x : Int) (hx : o.fs[f]? = some x) => (show ∃ fg fo, fa = some ⟨fg, fo, none⟩ ∧ W1.cell? ⟨fg, fo + f, none⟩ = some (.int .i64 x) from by
          obtain ⟨fg, fo, e1, e2, e3⟩ := hcell f x hx
          have hs := hp.base.size
          exact ⟨fg, fo, e1, (World.cell?_of_block (hb.block fg (by omega))).trans ((World.cell?_of_block (hp.base.block fg e2)).trans e3)⟩))
        have hlen : Q.length = k := by
          have := congrArg List.length hq
          rw [List.length_map, heapL_length (by omega)] at this
          exact this
        have HLEN := Lib.hid hlen
        obtain ⟨a4, k4, hv4, hk1, hk2⟩ : ∃ a cap, u4 = .slice a k cap ∧ k ≤ cap ∧ cap ≤ 9223372036854775807 := by
          rcases hp.row.2 with ⟨hv, h0⟩ | ⟨g, cap, cur, hv, _, _, h1, h2, _⟩
          · exact ⟨none, 0, by rw [hv, ← hlen, h0], by omega, by omega⟩
          · exact ⟨_, cap, by rw [hv, hlen], by omega, by simpa [maxLen] using h2⟩
        subst hv4
        have HPp := Lib.hid hp
        have HQ := Lib.hid hq
        have HO := Lib.hid ho
        have hNle := hN1_le o
        obtain ⟨L, hL⟩ : ∃ L, o.fs.length = L := ⟨_, rfl⟩
        have HL := Lib.hid hL
        obtain ⟨K, hKe⟩ : ∃ K, 1 + o.k % 5 = K := ⟨_, rfl⟩
        have hKb : 1 ≤ K ∧ K ≤ 5 := by omega
        have HK := Lib.hid (show hK o = K from hKe)
        have hn1 : hN1 o = if K = 2 ∧ 1 < min L 12 then 1 else min L 12 := by rw [← hKe, ← hL]; rfl
        rw [hL] at d2 hfc1 hNle
        have hki : (k : Int) < N := by omega
        have hk0 : (0 : Int) ≤ k := by omega
        have hk5 : (k : Int) < 40 := by omega
        obtain ⟨t, ht⟩ : ∃ t, o.t = t := ⟨_, rfl⟩
        obtain ⟨bd, hbd⟩ : ∃ bd, o.bd = bd := ⟨_, rfl⟩
        obtain ⟨m, hm⟩ : ∃ m, hN1 o = m := ⟨_, rfl⟩
        have HT := Lib.hid ht
        have HBD := Lib.hid hbd
        have HM := Lib.hid hm
        rw [ht] at d1
        rw [hbd] at d3
        rw [hm] at hn1 hNle
        have HFN := Lib.hid hfn
        clear hp hq ho hcell hlen c0 c1 c2 c3 cc hL hg ht hbd hm hfn
        go_wp2_with fail
        refine (HA.out _).mono ?_
        rintro e w1 ⟨rfl, hw⟩
        subst w1
        have hkn0 : 0 ≤ o.k % 5 := by omega
        have hkn1 : o.k % 5 ≤ 4 := by omega
        obtain ⟨r5, hr5⟩ : ∃ r5, o.k % 5 = r5 := ⟨_, rfl⟩
        rw [hr5] at hkn0 hkn1 hKe ⊢
        obtain ⟨wo, hwo⟩ : ∃ wo, wr.alloc (.cells #[.int .i64 K, .int .i64 t, .slice fa L fc, .int .i64 bd] 71) = wo := ⟨_, rfl⟩
        have hwoc : wo.heap[wr.heap.size]? = some (.cells #[.int .i64 K, .int .i64 t, .slice fa L fc, .int .i64 bd] 71 (0, 0)) := by rw [← hwo]; exact heap_alloc_new wr _
        have hwob : Below wr.heap.size wr wo := by rw [← hwo]; exact (Below.refl _ wr).alloc (Nat.le_refl _) _
        have HWC := Lib.hid hwoc
        have HWB := Lib.hid hwob
        have HWO := Lib.hid hwo
        clear hwo hwoc hwob
        go_upto_if 32 with fail
        rw [HWO.out]
        have y0 := blk_cell HWC.out 0
        obtain ⟨m0, hm0⟩ : ∃ m0, min L 12 = m0 := ⟨_, rfl⟩
        rw [hm0] at hn1
        go_cut [8] from 9 to 73 (fun n wx => n = .int .i64 (m0 : Int) ∧ wx = wo)
        case first =>
          by_cases h12 : 12 < L
          · have h12i : decide ((12 : Int) < L) = true := decide_eq_true (by omega)
            have e0 : m0 = 12 := by omega
            go_wp2_with fail
            go_meet
            exact ⟨by rw [e0]; rfl, rfl⟩
          · have h12i : decide ((12 : Int) < L) = false := decide_eq_false (by omega)
            have e0 : m0 = L := by omega
            go_wp2_with fail
            go_meet
            exact ⟨by rw [e0], rfl⟩
        case rest =>
          obtain ⟨rfl, rfl⟩ := hcut
          go_upto_region 11 with fail
          go_cut [39] from 9 to 73 (fun c wx => c = .bool (decide (K = 2 ∧ 1 < m0)) ∧ wx = wc)
          case first =>
            by_cases hK2 : K = 2
            · have hK2b : (K == 2) = true := beqT hK2
              go_wp2_with fail
              go_meet
              exact ⟨by congr 1; rw [Bool.eq_iff_iff]; simp [hK2]; omega, rfl⟩
            · have hK2b : (K == 2) = false := beqF hK2
              go_wp2_with fail
              go_meet
              exact ⟨by simp [hK2], rfl⟩
          case rest =>
            obtain ⟨rfl, hwx⟩ := hcut
            subst hwx
            go_upto_if 39 with fail
            go_cut [8] from 9 to 73 (fun n wx => n = .int .i64 (m : Int) ∧ wx = wc)
            case first =>
              by_cases hc : K = 2 ∧ 1 < m0
              · have hcb : decide (K = 2 ∧ 1 < m0) = true := decide_eq_true hc
                have e0 : m = 1 := by rw [hn1, if_pos hc]
                go_wp2_with fail
                go_meet
                exact ⟨by rw [e0]; rfl, rfl⟩
              · have hcb : decide (K = 2 ∧ 1 < m0) = false := decide_eq_false hc
                have e0 : m = m0 := by rw [hn1, if_neg hc]
                go_wp2_with fail
                go_meet
                exact ⟨by rw [e0], rfl⟩
            case rest =>
              obtain ⟨rfl, hwx⟩ := hcut
              subst hwx
              have hmc : m ≤ fc := by omega
              clear hn1 hm0
              have hsl := fun W => sl_to fa L fc m hmc W
              have y1 := blk_cell HWC.out 1
              have y2 := blk_cell HWC.out 2
              have y3 := blk_cell HWC.out 3
              have HO0 : Hid ((wc.alloc (.cells #[] 3)).ownsRow wc.heap.size 3 1 (.slice (some ⟨wc.heap.size, 0, none⟩) 0 0) 0 []) := own_empty wc 3
              have hobl : wr.heap.size < wc.heap.size := (Array.getElem?_eq_some_iff.1 HWC.out).1
              have y2' : (wc.alloc (.cells #[] 3)).cell? ⟨wr.heap.size, 2, none⟩ = some (.slice fa L fc) := (Below.cell (((Below.refl wc.heap.size wc).alloc (Nat.le_refl _) _)) (p := ⟨wr.heap.size, 2, none⟩) hobl).trans y2
              go_upto_region 13 with fail
              go_cut [8] from 9 to 73 (fun n wx => n = .int .i64 (m : Int) ∧ ∃ v, wx.heap[wr.heap.size]? = some (.cells #[.int .i64 K, .int .i64 t, v, .int .i64 bd] 71 (0, 0)) ∧ wx.ownsRow wr.heap.size 3 1 v m (ints (o.fs.take m)) ∧ Below wr.heap.size wr wx)
              case first =>
                go_wp2_with (at_builtin; refine wpList_append_opt rfl _ _ 23 rfl wc.heap.size 3 i0 (.int .i64 0) 8 Try.underlying23 hi hz0 hz1 hz2 rfl (.slice (some ⟨wc.heap.size, 0, none⟩) 0 0) 0 [] rfl HO0.out fa m fc (ints (o.fs.take m)) rfl (fun e => by have := HFN.out e; omega) (by rw [ints_length, List.length_take, HL.out]; omega) (fun j u hu => by
                  unfold ints at hu
                  rw [List.getElem?_map] at hu
                  cases hx : (o.fs.take m)[j]? with
                  | none => rw [hx] at hu; cases hu
                  | some x =>
                    rw [hx] at hu
                    obtain rfl := Option.some.inj hu
                    obtain ⟨fg, fo, e1, e2⟩ := HCE.out (wc.alloc (.cells #[] 3)) (HWB.out.alloc HWB.out.size _) j x (by rw [List.getElem?_take] at hx; split at hx; exact hx; cases hx)
                    exact ⟨_, e1, by rw [plain_add]; exact e2⟩) (fun y hy => by obtain ⟨z, _, rfl⟩ := List.mem_map.1 hy; rfl) (by unfold maxLen; omega) (by omega) (by simp) ?_; intro v5 w5 hown5 hgrow5 _; obtain ⟨a5, k5, rfl, hk5, hk6⟩ := own_shape5 (own_mono hown5 (Nat.zero_le _)); obtain ⟨b5, c5, o5, f5⟩ := fields_laid rfl HWC.out hown5 hgrow5; have z0 := blk_cell b5 2; have z1 := blk_free b5 2; have HC5 := Lib.hid c5; have HO5 := Lib.hid o5; have HF5 := Lib.hid f5; clear hown5 hgrow5 b5 c5 o5 f5)
                go_meet
                rw [Nat.zero_add, List.nil_append] at HO5
                rw [Nat.zero_add] at HC5 HF5
                exact ⟨rfl, _, HC5.out, own_mono HO5.out HWB.out.size, HWB.out.trans (HF5.out.below HWB.out.size (fun i hi => by subst hi; exact Nat.le_refl _))⟩
              case rest =>
                obtain ⟨rfl, v, hbv, hov, hbb⟩ := hcut
                have HBV := Lib.hid hbv
                have HOV := Lib.hid hov
                have HBB := Lib.hid hbb
                clear y0 y1 y2 y2' y3 hbv hov hbb
                obtain ⟨n2, hn2⟩ : ∃ n2, (if m = 0 then 1 else m) = n2 := ⟨_, rfl⟩
                have HF2 := Lib.hid (show (hF o).length = n2 from by rw [hF_len, HM.out]; exact hn2)
                go_upto_if 48 with fail
                have hbl : wr.heap.size < wc.heap.size := (Array.getElem?_eq_some_iff.1 HBV.out).1
                go_cut [8] from 9 to 73 (fun n wx => n = .int .i64 (n2 : Int) ∧ ∃ v, wx.heap[wr.heap.size]? = some (.cells #[.int .i64 K, .int .i64 t, v, .int .i64 bd] 71 (0, 0)) ∧ wx.ownsRow wr.heap.size 3 1 v n2 (ints (hF o)) ∧ Below wr.heap.size wr wx)
                case first =>
                  by_cases hm0 : m = 0
                  · have hmb : ((m : Int) == 0) = true := beqT (by omega)
                    rw [if_pos hm0] at hn2
                    have HN2 := Lib.hid hn2
                    clear hn2
                    have e1 : hF o = [-1] := by unfold hF; rw [HM.out, if_pos hm0]
                    have hb1 : (wc.alloc (.cells #[.int .i64 (-1)] 3)).heap[wr.heap.size]? = some (.cells #[.int .i64 K, .int .i64 t, v, .int .i64 bd] 71 (0, 0)) := (Below.heap_alloc _ _ _ hbl).trans HBV.out
                    have z0 := blk_cell hb1 2
                    have z1 := blk_free hb1 2
                    have HB1 := Lib.hid hb1
                    clear hb1
                    go_wp2_with fail
                    go_meet
                    have hs1 : (wc.setCell ⟨wr.heap.size, 2, none⟩ (.slice (some ⟨wc.heap.size, 0, none⟩) 1 1)).heap.size = wc.heap.size := by simp [World.setCell]
                    refine ⟨by rw [← HN2.out]; rfl, _, (Below.heap_alloc _ _ _ (by omega)).trans (blk_set HBV.out 2 _), ?_, (HBB.out.setCell (p := ⟨wr.heap.size, 2, none⟩) (Nat.le_refl _) _).alloc (by omega) _⟩
                    rw [e1, ← HN2.out]
                    have ho1 := own_single (wc.setCell ⟨wr.heap.size, 2, none⟩ (.slice (some ⟨wc.heap.size, 0, none⟩) 1 1)) 3 (.int .i64 (-1))
                    rw [hs1] at ho1
                    exact own_mono ho1 (by omega)
                  · have hmb : ((m : Int) == 0) = false := beqF (by omega)
                    rw [if_neg hm0] at hn2
                    have e1 : hF o = o.fs.take m := by unfold hF; rw [HM.out, if_neg hm0]
                    go_wp2_with fail
                    go_meet
                    exact ⟨by rw [← hn2], v, HBV.out, by rw [e1, ← hn2]; exact HOV.out, HBB.out⟩
                case rest =>
                  obtain ⟨rfl, v2, hbv2, hov2, hbb2⟩ := hcut
                  have HBV2 := Lib.hid hbv2
                  have HOV2 := Lib.hid hov2
                  have HBB2 := Lib.hid hbb2
                  clear hbv2 hov2 hbb2 hbl HBV HOV HBB
                  have z0 := blk_cell HBV2.out 0
                  have z1 := blk_cell HBV2.out 1
                  have zf := blk_free HBV2.out 1
                  have hn2b : 1 ≤ n2 ∧ n2 ≤ 12 := by have := hF_bd o; rw [HF2.out] at this; exact this
                  obtain ⟨T, hT⟩ : ∃ T, hT o = T := ⟨_, rfl⟩
                  have hTe : (if K = 4 then 0 else if K = 5 then t % ((n2 + 1 : Nat) : Int) else (n2 : Int)) = T := by rw [← hT]; unfold Go.Proofs.Ytjdhjehnofediaa.hT; rw [HK.out, HF2.out, HT.out]
                  have HAM := Lib.hid (fun W1 => among_is t ((n2 : Int) + 1) (by omega) (by omega) W1)
                  have HTT := Lib.hid hT
                  clear hT
                  go_upto_block 2 with fail
                  go_cut [8] from 9 to 73 (fun n wx => n = .int .i64 (n2 : Int) ∧ wx.heap[wr.heap.size]? = some (.cells #[.int .i64 K, .int .i64 T, v2, .int .i64 bd] 71 (0, 0)) ∧ wx.ownsRow wr.heap.size 3 1 v2 n2 (ints (hF o)) ∧ Below wr.heap.size wr wx)
                  case first =>
                    by_cases h4 : K = 4
                    · have h4b : (K == 4) = true := beqT h4
                      have e1 : T = 0 := by rw [← hTe, if_pos h4]
                      have HE := Lib.hid e1
                      clear hTe e1
                      go_wp2_with fail
                      go_meet
                      exact ⟨rfl, by rw [HE.out]; exact blk_set HBV2.out 1 _, own4 ((Fr.refl (· = wr.heap.size) _).setCell (p := ⟨wr.heap.size, 1, none⟩) (.inl rfl) _) HOV2.out (own_apart2 HBV2.out HOV2.out), HBB2.out.setCell (p := ⟨wr.heap.size, 1, none⟩) (Nat.le_refl _) _⟩
                    · have h4b : (K == 4) = false := beqF h4
                      rw [if_neg h4] at hTe
                      by_cases h5 : K = 5
                      · have h5b : (K == 5) = true := beqT h5
                        rw [if_pos h5] at hTe
                        have HE := Lib.hid hTe
                        clear hTe
                        go_wp2_with fail
                        refine (HAM.out _).mono ?_
                        rintro e w1 ⟨rfl, hw⟩
                        subst w1
                        go_wp2_with fail
                        go_meet
                        exact ⟨rfl, by rw [← HE.out]; exact blk_set HBV2.out 1 _, own4 ((Fr.refl (· = wr.heap.size) _).setCell (p := ⟨wr.heap.size, 1, none⟩) (.inl rfl) _) HOV2.out (own_apart2 HBV2.out HOV2.out), HBB2.out.setCell (p := ⟨wr.heap.size, 1, none⟩) (Nat.le_refl _) _⟩
                      · have h5b : (K == 5) = false := beqF h5
                        rw [if_neg h5] at hTe
                        have HE := Lib.hid hTe
                        clear hTe
                        go_wp2_with fail
                        go_meet
                        exact ⟨rfl, by rw [← HE.out]; exact blk_set HBV2.out 1 _, own4 ((Fr.refl (· = wr.heap.size) _).setCell (p := ⟨wr.heap.size, 1, none⟩) (.inl rfl) _) HOV2.out (own_apart2 HBV2.out HOV2.out), HBB2.out.setCell (p := ⟨wr.heap.size, 1, none⟩) (Nat.le_refl _) _⟩
                  case rest =>
                    obtain ⟨rfl, hbv3, hov3, hbb3⟩ := hcut
                    obtain ⟨va, vc, rfl, hvc1, hvc2⟩ := own_shape5 (own_mono hov3 (Nat.zero_le _))
                    have hpn := HPp.out.below hbb3
                    have hrow := hpn.row
                    rw [HLEN.out] at hrow
                    have HPN := Lib.hid hpn
                    have HRW := Lib.hid hrow
                    have HOV3 := Lib.hid hov3
                    have q0 := blk_cell hbv3 0
                    have q1 := blk_cell hbv3 1
                    have q2 := blk_cell hbv3 2
                    have q3 := blk_cell hbv3 3
                    have hbl3 : wr.heap.size < wc.heap.size := (Array.getElem?_eq_some_iff.1 hbv3).1
                    have hAle := heapL_le rs k
                    have hAn := heapL_words HO.out
                    rw [HF2.out] at hAn
                    obtain ⟨A, hA⟩ : ∃ A, addr4 (heapL rs k) (heapL rs k).length = A := ⟨_, rfl⟩
                    rw [hA] at hAle hAn
                    have HAN := Lib.hid hAn
                    have hsw : w.heap.size ≤ wc.heap.size := hpn.base.size
                    have HOE : Hid (hO o = ⟨K, T, hF o, bd⟩) := Lib.hid (by unfold Go.Proofs.Ytjdhjehnofediaa.hO; rw [HK.out, HTT.out, HBD.out])
                    rw [hA]
                    clear hpn hrow hov3 hbb3 hA hTe hAn hbv3 z0 z1 zf hn2 hNle hmc hsl hobl
                    go_wp2_with (at_builtin; refine wpList_append_own_at _ rfl _ _ 22 rfl w.heap.size 71 i4 (.agg #[.int .i64 0, .int .i64 0, .slice none 0 0, .int .i64 0]) 4 48 Try.underlying22 hi4 hy0 hy1 hy2 rfl (by decide) (.slice a4 k k4) k (cells4 Q) rfl (HRW.out.alloc _) ⟨wc.heap.size, 0, none⟩ 1 1 (oCells ⟨K, T, hF o, bd⟩ (.slice va n2 vc)) rfl rfl (cells4_at _ _ _ _ _ _) (oc_one rfl) (by unfold maxLen; omega) (by omega) (by simpa using Nat.le_succ_of_le hsw) ?_; intro v8 w8 hown8 hgrow8 _ _)
                    have hpush := HPN.out.push (o := ⟨K, T, hF o, bd⟩) (u := .slice va n2 vc) (by show wc.ownsRow w.heap.size 3 1 _ (hF o).length _; rw [HF2.out]; exact own_mono HOV3.out HPp.out.base.size) (by rw [HLEN.out]; exact hown8) hgrow8
                    have HPU := Lib.hid hpush
                    clear hpush hown8 hgrow8
                    go_roundw
                    case rel => exact ⟨k + 1, _, hlt, hlt2, by go_num, by rw [HAN.out]; go_num, HPU.out, by rw [List.map_append, HQ.out, heapL_succ HO.out, HOE.out]; rfl⟩
                    case measure => simp [intOf]; omega
      · have hk0 : k = 40 := by omega
        have hki : (k : Int) < N := by omega
        have hk5 : ¬ (k : Int) < 40 := by omega
        obtain ⟨a', c', hv4, ho4⟩ := hp.obsV (os := heapO rs) (by rw [hq, hk0]; rfl) (heapO_few rs) (heapO_short rs)
        have hw4 : 63 + addr4 (heapL rs k) (heapL rs k).length = heapW rs := by rw [hk0]; rfl
        rw [hw4]
        subst hv4
        have HE := Lib.hid (And.intro ho4 hp.base)
        clear hp hq hw4 ho4 hk0
        go_wp2_with fail
        go_ret2
        exact ⟨_, ⟨_, rfl⟩, HE.out⟩
    · have hkN : k = N := by omega
      have hki : ¬ (k : Int) < N := by omega
      have hle : heapL rs k = heapO rs := heapL_end (by omega) (by omega)
      obtain ⟨a', c', hv4, ho4⟩ := hp.obsV (os := heapO rs) (by rw [hq, hle]) (heapO_few rs) (heapO_short rs)
      have hw4 : 63 + addr4 (heapL rs k) (heapL rs k).length = heapW rs := by rw [hle]; rfl
      rw [hw4]
      subst hv4
      have HE := Lib.hid (And.intro ho4 hp.base)
      clear hp hq hw4 ho4 hkN hle
      go_wp2_with fail
      go_ret2
      exact ⟨_, ⟨_, rfl⟩, HE.out⟩
end Go.Proofs.Ytjdhjehnofediaa
