/- The contract of the statements' made. Conditions: the list of objects lies as ObsV says, each right, in a memory that has room. -/
import Derived.Test.YtjdhjehnofediaaGcMade
import Derived.Deep.RegionLaw
namespace Go.Proofs.Ytjdhjehnofediaa
open Go Go.RowKit
set_option maxRecDepth 100000 in
set_option maxHeartbeats 8000000 in
theorem made_any {w : World} {a : Option Addr} {N c W : Nat} {os : List O4} (hv : ObsV w a N os) (r : HeapR os W) :
    Calls Try.prog 15 #[.slice a N c, .int .i64 (W : Int)] w fun e w' => e = .returned (.pointer (some ⟨w.heap.size, 0, none⟩)) ∧ ∃ R, MW w w.heap.size W 0 (heapObs os) [] w' R := by
  have hl := hv.len
  have h40 := hv.few
  obtain ⟨hW0, hW1⟩ := r.size (by omega) hv.short
  have HNW := Lib.hid (new_raw W hW0 (by omega))
  have HV := Lib.hid hv
  have HR := Lib.hid r
  clear hv r
  go_enter Try.func15, Try.ntmps15
  go_wp2_with fail
  refine (HNW.out _).mono ?_
  rintro e w1 ⟨rfl, hw1⟩
  have HM1 := Lib.hid (show MW w w.heap.size W 0 (obA os 0) [] w1 (fun _ => .slice none 0 0) from by rw [hw1]; exact MW.new w hW0 (by omega))
  clear hw1 HNW
  have hpn : ((some (⟨w.heap.size, 0, none⟩ : Addr)) == none) = false := rfl
  go_wp2_with fail
  go_loopw [7] (fun i wr => ∃ (j : Nat) (R : Nat → Value), j ≤ N ∧ i = .int .i64 j ∧ MW w w.heap.size W 0 (obA os j) [] wr R) (fun i _ => N - (intOf i).toNat)
  case atStart => exact ⟨0, _, Nat.zero_le _, rfl, HM1.out⟩
  case round =>
    obtain ⟨j, R, hj, rfl, hm⟩ := hrel
    clear HM1
    by_cases hlt : j < N
    · obtain ⟨o, ho⟩ : ∃ o, os[j]? = some o := ⟨_, List.getElem?_eq_getElem (by omega)⟩
      have hmo := List.mem_of_getElem? ho
      have hvr := HV.out.below (w1 := wr) hm.fr
      obtain ⟨g, off, fa, fc, rfl, hg, c0, c1, c2, c3, hfs⟩ := hvr.at_ j o ho
      have hsh := HV.out.short o hmo
      obtain ⟨hk0, ht0, _⟩ := HR.out.right o hmo
      have hua := used_obA HR.out j (by omega)
      have HAL := Lib.hid (show Calls Try.prog 40 #[.pointer (some ⟨w.heap.size, 0, none⟩), .int .i64 o.k, .int .i64 o.fs.length, .int .i64 o.t] wr.drew _ from alloc_to (hm.drewN 1).m hm.z o.k.toNat o.fs.length o.t.toNat o.k o.fs.length o.t (addr4 os j : Nat) (by omega) rfl (by omega) (by rw [adr_0]; omega) (HR.out.right' hmo) (HR.out.fits ho))
      have HMW := Lib.hid (hm.drewN 1)
      have HWA := Lib.hid (wf_alloc hm.z (HR.out.right' hmo) (HR.out.fits ho))
      have HNX := Lib.hid (obA_succ ho)
      have hle := addr4_le HV.out.short j (by omega)
      obtain ⟨A, hA⟩ : ∃ A, addr4 os j = A := ⟨_, rfl⟩
      rw [hA] at HAL hle
      obtain ⟨S, hS⟩ : ∃ S, o.fs.length = S := ⟨_, rfl⟩
      rw [hS] at HAL HWA HNX c2 hsh
      obtain ⟨t, ht⟩ : ∃ t, o.t = t := ⟨_, rfl⟩
      obtain ⟨kd, hkd⟩ : ∃ kd, o.k = kd := ⟨_, rfl⟩
      rw [ht] at HAL HWA HNX c1
      rw [hkd] at HAL HWA HNX c0
      have HAJ := Lib.hid hA
      have hji : (j : Int) < N := by omega
      have hj0 : (0 : Int) ≤ j := by omega
      have hAA : ((A : Int) != (A : Int)) = false := by simp
      clear hm hvr hfs hg ho hmo hk0 ht0 hua hA hS ht hkd hle hsh
      go_wp2_with fail
      go_region_law ((go_simp; go_at_call 40; refine (HAL.out).mono ?_; rintro e w3 ⟨rfl, R3, m3, s3, f3⟩))
      all_goals
        have HM3 := Lib.hid (show MW w w.heap.size W 0 (obA os (j + 1)) [] w3 R3 from by rw [HNX.out]; exact HMW.out.next m3 HWA.out s3 f3)
        have HAT3 := Lib.hid (at_any (c := c) (HV.out.below (w1 := w3) HM3.out.fr) j (by omega))
        rw [HAJ.out] at HAT3
        clear m3 s3 f3
        go_wp2_with fail
        refine HAT3.out.mono ?_
        rintro e w4 ⟨rfl, hw⟩
        subst w4
        go_wp2_with fail
        go_roundw
        case rel => exact ⟨j + 1, R3, hlt, by go_num, HM3.out⟩
        case measure => simp [intOf]; omega
    · obtain rfl : j = N := by omega
      have HJ0 := Lib.hid (show MW w w.heap.size W 0 (obJ os 0) [] wr R from by rw [obJ_zero, hl]; exact hm)
      clear hm
      go_wp2_with fail
      go_loopw [10] (fun i wx => ∃ (q : Nat) (R : Nat → Value), q ≤ j ∧ i = .int .i64 q ∧ MW w w.heap.size W 0 (obJ os q) [] wx R) (fun i _ => j - (intOf i).toNat)
      case atStart => exact ⟨0, _, Nat.zero_le _, rfl, HJ0.out⟩
      case round =>
        obtain ⟨q, R, hq, rfl, hm⟩ := hrel
        clear HJ0
        by_cases hlt2 : q < j
        · obtain ⟨o, ho⟩ : ∃ o, os[q]? = some o := ⟨_, List.getElem?_eq_getElem (by omega)⟩
          have hmo := List.mem_of_getElem? ho
          have htl := HR.out.tle hmo
          have hsh := HV.out.short o hmo
          have hrg := HR.out.rng o hmo
          rw [obJ_obM ho] at hm
          have HQ := Lib.hid hm
          have HO := Lib.hid ho
          obtain ⟨S, hS⟩ : ∃ S, o.fs.length = S := ⟨_, rfl⟩
          have HS := Lib.hid hS
          rw [hS] at hsh
          have hqi : (q : Int) < j := by omega
          have hq0 : (0 : Int) ≤ q := by omega
          clear hm ho hS
          go_wp2_with fail
          go_loopw [11] (fun i wx => ∃ (k : Nat) (R : Nat → Value), k ≤ S ∧ i = .int .i64 k ∧ MW w w.heap.size W 0 (obM os q o k) [] wx R) (fun i _ => S - (intOf i).toNat)
          case atStart => exact ⟨0, _, Nat.zero_le _, rfl, HQ.out⟩
          case round =>
            obtain ⟨k, R, hk, rfl, hm⟩ := hrel
            clear HQ
            have hvr := HV.out.below (w1 := wr) hm.fr
            obtain ⟨g, off, fa, fc, rfl, hg, c0, c1, c2, c3, hfs⟩ := hvr.at_ q o HO.out
            rw [HS.out] at c2
            have hsti := start_obM HR.out HO.out (k := k) (by rw [HS.out]; exact hk)
            have HMM := Lib.hid hm
            clear hfs c0 c1 c3 hg
            by_cases hlt3 : k < S
            · have HAT := Lib.hid (at_any (c := c) hvr q (by omega))
              have hkl : k < o.fs.length := by rw [HS.out]; exact hlt3
              have hrx := hrg (o.fs.getD k 0) (by rw [List.getD_eq_getElem?_getD, List.getElem?_eq_getElem hkl]; exact List.getElem_mem _)
              have HWD := Lib.hid (word_any (c := c) hvr HO.out hkl hrx.1)
              obtain ⟨x0, x1⟩ := wordW_bd os q k
              obtain ⟨X, hX⟩ : ∃ X : Nat, wordW os q k = X := ⟨(wordW os q k).toNat, by omega⟩
              have HX := Lib.hid hX
              rw [hX] at HWD x0 x1
              obtain ⟨A, hA⟩ : ∃ A, addr4 os q = A := ⟨_, rfl⟩
              rw [hA] at HAT hsti
              have hidx : idxAt (obM os q o k) 0 W (A : Int) = some q := by
                have := idxAt_of (os := obM os q o k) (h := 0) (W := W) (j := q) (List.getElem?_eq_some_iff.1 (obM_get (k := k) (o := o) (by rw [hl]; exact hlt2))).1
                rw [adr_0, show ((start (obM os q o k) q : Nat) : Int) + 1 = (A : Int) by omega] at this
                exact this
              have hle := addr4_le HV.out.short q (by omega)
              rw [hA] at hle
              have HST := Lib.hid (fun (W1 : World) (hb : Below wr.heap.size wr W1) => store_hit (MemV.below HMM.out.m hb) HMM.out.z (A : Int) k X (by omega) hidx (obM_get (by rw [hl]; exact hlt2)) (by rw [obP_len htl (Nat.le_of_lt hkl)]; exact hkl))
              have hki : (k : Int) < S := by omega
              have hk0 : (0 : Int) ≤ k := by omega
              clear hm hrx hX hA hidx hle hsti
              go_wp2_with fail
              refine HAT.out.mono ?_
              rintro e w4 ⟨rfl, hw⟩
              subst w4
              go_wp2_with fail
              refine HWD.out.mono ?_
              rintro e w5 ⟨rfl, hb5⟩
              have HST5 := Lib.hid (HST.out w5 hb5)
              have HM5 := Lib.hid hb5
              clear hb5
              go_wp2_with fail
              refine HST5.out.mono ?_
              rintro e w6 ⟨rfl, m6, f6⟩
              have HM6 := Lib.hid (show MW w w.heap.size W 0 (obM os q o (k + 1)) [] w6 R from by
                have hg := obM_get (os := os) (j := q) (k := k) (o := o) (by rw [hl]; exact hlt2)
                have z6 := wf_setF (x := X) (i := k) HMM.out.z hg (by omega)
                rw [setF_eq hg] at m6 z6
                have e1 : (obM os q o k).set q { obP os q o k with ws := (obP os q o k).ws.set k X } = obM os q o (k + 1) := by
                  rw [obM_set (by rw [hl]; exact hlt2), show X = (wordW os q k).toNat from by rw [HX.out]; rfl, obP_set htl hkl]
                  rfl
                rw [e1] at m6 z6
                exact (MW.mk (MemV.below HMM.out.m HM5.out) HMM.out.z HMM.out.ge (HMM.out.fr.trans (HM5.out.mono HMM.out.fr.size))).next m6 z6 (fun _ h => .inl h) f6)
              clear m6 f6
              go_wp2_with fail
              go_roundw
              case rel => exact ⟨k + 1, R, hlt3, by go_num, HM6.out⟩
              case measure => simp [intOf]; omega
            · obtain rfl : k = S := by omega
              have HE := Lib.hid (show MW w w.heap.size W 0 (obJ os (q + 1)) [] wr R from by
                have := hm
                rw [← HS.out, obM_obJ HO.out htl] at this
                exact this)
              clear hm hsti
              go_wp2_with fail
              go_roundw
              case rel => exact ⟨q + 1, _, hlt2, by go_num, HE.out⟩
              case measure => simp [intOf]; omega
        · obtain rfl : q = j := by omega
          have HE := Lib.hid (show MW w w.heap.size W 0 (heapObs os) [] wr R from by rw [← obJ_end, hl]; exact hm)
          clear hm
          go_wp2_with fail
          go_ret
          exact ⟨rfl, R, HE.out⟩
end Go.Proofs.Ytjdhjehnofediaa
