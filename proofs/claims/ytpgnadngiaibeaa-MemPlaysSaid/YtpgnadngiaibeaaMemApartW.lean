/- The walk of the statement MemApart: it returns true. Condition: the row reads as integers. -/
import Derived.Test.YtpgnadngiaibeaaMemHolds
namespace Go.Proofs.Ytpgnadngiaibeaa
open Go Go.RowKit
theorem aL_congr {a c : List Ob} (h : sz a = sz c) : aL a = aL c := by
  unfold aL
  rw [len_congr h]
  apply List.map_congr_left
  intro j _
  rw [start_congr h]
theorem held_set {os : List Ob} {j : Nat} {o : Ob} {but : Int} (h : Held os but) (hb : (j : Int) = but) : Held (os.set j o) but := by
  intro i o' ho hi k hk
  have hne : j ≠ i := by omega
  rw [List.getElem?_set_ne hne] at ho
  exact h i o' ho hi k hk
/-- a field of an object made x -/
def obSet (o : Ob) (i x : Nat) : Ob := { o with ws := o.ws.set i x }
theorem obSet_len (o : Ob) (i x : Nat) : (obSet o i x).ws.length = o.ws.length := by simp [obSet]
theorem obSet_get (o : Ob) {i x : Nat} (h : i < o.ws.length) : (obSet o i x).ws.getD i 0 = x := by simp [obSet, h]
theorem obSet_ne (o : Ob) {i k x : Nat} (h : k ≠ i) : (obSet o i x).ws.getD k 0 = o.ws.getD k 0 := by
  simp only [obSet, List.getD_eq_getElem?_getD]
  rw [List.getElem?_set_ne (Ne.symm h)]
theorem set_get {os : List Ob} {j : Nat} {o o' : Ob} (h : os[j]? = some o) : (os.set j o')[j]? = some o' := by
  have := (List.getElem?_eq_some_iff.1 h).1
  simp [this]
set_option maxRecDepth 100000 in
set_option maxHeartbeats 8000000 in
theorem memApart_walk (k0 k1 k2 x0 : Int) (hx : 0 ≤ x0 ∧ x0 ≤ 18446744073709551615) {v : Value} {zs : List Int} (w : World) (hv : IntsV w v zs) :
    Calls Try.prog 7 #[.int .i64 k0, v, .int .i64 k1, .int .i64 k2, .int .u64 x0] w fun e w' => e = .returned (.bool true) ∧ Below w.heap.size w w' := by
  obtain ⟨x, hxn⟩ : ∃ x : Nat, x0 = x := ⟨x0.toNat, by omega⟩
  subst hxn
  have hx2 : x < 18446744073709551616 := by omega
  clear hx
  go_enter Try.func7, Try.ntmps7
  go_wp2_with fail
  refine (filled_any k0 w hv).mono ?_
  rintro e w1 ⟨W, R, ns, va, vs, rfl, hF, hn, hz, hW1⟩
  obtain ⟨a, cap, a', cap', rfl, rfl, hc1, hc2, hc3, hc4⟩ := hF.at (fobs_length ns)
  have HF := Lib.hid hF
  have HZ := Lib.hid hz
  obtain ⟨N, hN⟩ : ∃ N, ns.length = N := ⟨_, rfl⟩
  have HN := Lib.hid hN
  rw [hN] at hc1 hc3 hn HF ⊢
  clear hF hz hN
  by_cases h0 : N = 0
  · subst h0
    go_wp2_with fail
    refine (known_any _).mono ?_
    rintro e w5 ⟨rfl, hb⟩
    have HB := Lib.hid (HF.out.x.known hb)
    clear hb
    go_wp2_with fail
    go_ret
    exact ⟨rfl, HB.out⟩
  · go_wp2_with fail
    refine (among_any k1 N (by omega) (by omega) _).mono ?_
    rintro e w' ⟨⟨r, hr, rfl⟩, rfl⟩
    have hrN : r < N := by omega
    have hrn : r < ns.length := by rw [HN.out]; exact hrN
    obtain ⟨y, hy⟩ : ∃ y, ns[r] = y := ⟨_, rfl⟩
    have hy8 := HZ.out _ (List.getElem_mem hrn)
    rw [hy] at hy8
    obtain ⟨g, rfl, hcell, hfz⟩ := HF.out.cellA (j := r) (by rw [fobs_length]; exact hrn)
    obtain ⟨g', rfl, hcell', hfz'⟩ := HF.out.cellS (j := r) hrn
    rw [hy] at hcell'
    have ho : (fobs ns)[r]? = some (fob r y) := by rw [fobs_get ns hrn, hy]
    obtain ⟨s, hs⟩ : ∃ s, start (fobs ns) r = s := ⟨_, rfl⟩
    rw [hs] at hcell
    have hle := HF.out.addr_le (j := r) (by rw [fobs_length]; exact hrn)
    rw [hs] at hle
    have HO := Lib.hid ho
    have HS := Lib.hid hs
    have HY := Lib.hid hy
    clear hr hy ho hs
    go_wp2_with fail
    refine (among_any k2 y (by omega) (by omega) _).mono ?_
    rintro e w' ⟨⟨t, ht, rfl⟩, rfl⟩
    have hty : t < y := by omega
    obtain ⟨u, hu⟩ : ∃ u, used (fobs ns) = u := ⟨_, rfl⟩
    have HU := Lib.hid hu
    have hun := HF.out.x.z.un
    rw [hu] at hun
    clear ht hu
    go_wp2_with fail
    refine (next_m HF.out.x.m HF.out.x.z HU.out _ (adr_0 _ _)).mono ?_
    rintro e w2 ⟨rfl, k1, hw⟩
    have HF1 := Lib.hid (HF.out.drewN k1)
    rw [← hw] at HF1
    obtain ⟨g2, e2, hcell2, hfz2⟩ := HF1.out.cellA (j := r) (by rw [fobs_length]; exact hrn)
    obtain rfl : g2 = g := by injection e2 with e2; injection e2 with e2; exact e2.symm
    rw [HS.out] at hcell2
    clear hw hcell hfz hcell' hfz' e2
    have HST := Lib.hid (store_to HF1.out.x.m HF1.out.x.z ((s : Int) + 1) t x t x rfl rfl hx2 (by omega) (idx_start (by rw [fobs_length]; exact hrn) (by rw [HS.out])) HO.out (by rw [fob_len]; exact hty))
    go_wp2_with fail
    refine HST.out.mono ?_
    rintro e w3 ⟨rfl, m3, z3, f3⟩
    have hfl : t < (fob r y).ws.length := by rw [fob_len]; exact hty
    obtain ⟨o', ho'⟩ : ∃ o', obSet (fob r y) t x = o' := ⟨_, rfl⟩
    have hl' : o'.ws.length = y := by rw [← ho', obSet_len, fob_len]
    have hsz : sz ((fobs ns).set r o') = sz (fobs ns) := sz_set HO.out (by rw [hl', fob_len])
    obtain ⟨now, hnow⟩ : ∃ now, (fobs ns).set r o' = now := ⟨_, rfl⟩
    have hon : now[r]? = some o' := by rw [← hnow]; exact set_get HO.out
    have hheld : Held now r := by rw [← hnow]; exact held_set (held_fobs ns r) rfl
    have e0 : ({ fob r y with ws := (fob r y).ws.set t x } : Ob) = o' := ho'
    rw [e0, hnow] at m3 z3
    rw [hnow] at hsz
    have F3 := HF1.out.next m3 z3 (fun _ h => .inl h) f3
    rw [← aL_congr hsz] at F3
    have HF3 := Lib.hid F3
    have HO3 := Lib.hid hon
    have HH := Lib.hid hheld
    have HSZ := Lib.hid (hsz.trans (sz_fobs ns))
    have HS3 := Lib.hid (show start now r = s from by rw [start_congr hsz, HS.out])
    have HU3 := Lib.hid (show used now = u from by rw [used_congr hsz, HU.out])
    have hv1 : o'.ws.getD t 0 = x := by rw [← ho']; exact obSet_get _ hfl
    have hv2 : ∀ k, k < y → k ≠ t → o'.ws.getD k 0 = 100 * r + k := fun k hk hne => by rw [← ho', obSet_ne _ hne]; exact fob_get hk
    have HV := Lib.hid hv2
    have HL' := Lib.hid hl'
    have hrl : r < now.length := (List.getElem?_eq_some_iff.1 hon).1
    clear hv2 hl' hsz hon hheld m3 z3 F3 f3 e0 ho' hnow hfl
    obtain ⟨g3, e3, hcell3, hfz3⟩ := HF3.out.cellA (j := r) hrl
    obtain rfl : g3 = g2 := by injection e3 with e3; injection e3 with e3; exact e3.symm
    rw [HS3.out] at hcell3
    have HLD := Lib.hid (load_hit HF3.out.x.m HF3.out.x.z ((s : Int) + 1) t (by omega) (idx_start hrl (by rw [HS3.out])) HO3.out (by rw [HL'.out]; exact hty))
    rw [hv1] at HLD
    clear hcell2 hfz2 hv1 e3
    go_wp2_with fail
    refine HLD.out.mono ?_
    rintro e w4 ⟨rfl, k4, hw⟩
    have HF4 := Lib.hid (HF3.out.drewN k4)
    rw [← hw] at HF4
    clear hw hcell3 hfz3
    go_wp2_with fail
    go_loopw [20] (fun i wr => ∃ (j : Nat), j ≤ y ∧ i = .int .i64 j ∧ FRel w w.heap.size W 0 now [] (aL now) (sL ns) (.slice (some ⟨g3, 0, none⟩) N cap) (.slice (some ⟨g', 0, none⟩) N cap') wr R) (fun i _ => y - (intOf i).toNat)
    case atStart => exact ⟨0, Nat.zero_le _, rfl, HF4.out⟩
    case round =>
      obtain ⟨j, hj, rfl, hFr⟩ := hrel
      have HFr := Lib.hid hFr
      obtain ⟨g5, e5, hcell, hfz⟩ := hFr.cellA (j := r) hrl
      obtain rfl : g5 = g3 := by injection e5 with e5; injection e5 with e5; exact e5.symm
      obtain ⟨g6, e6, hcell', hfz'⟩ := hFr.cellS (j := r) hrn
      obtain rfl : g6 = g' := by injection e6 with e6; injection e6 with e6; exact e6.symm
      rw [HS3.out] at hcell
      rw [HY.out] at hcell'
      clear hFr e5 e6
      by_cases hjy : j < y
      · have HLJ := Lib.hid (load_hit HFr.out.x.m HFr.out.x.z ((s : Int) + 1) j (by omega) (idx_start hrl (by rw [HS3.out])) HO3.out (by rw [HL'.out]; exact hjy))
        obtain ⟨q, hq⟩ : ∃ q, o'.ws.getD j 0 = q := ⟨_, rfl⟩
        rw [hq] at HLJ
        have HJY := Lib.hid hjy
        by_cases hjt : j = t
        · subst hjt
          clear hq
          go_wp2_with fail
          refine HLJ.out.mono ?_
          rintro e w5 ⟨rfl, k5, hw⟩
          have HF5 := Lib.hid (HFr.out.drewN k5)
          rw [← hw] at HF5
          clear hw
          go_wp2_with fail
          go_roundw
          case rel => exact ⟨j + 1, HJY.out, by go_num, HF5.out⟩
          case measure => have := HJY.out; simp [intOf]; omega
        · have hqv : q = 100 * r + j := by rw [← hq]; exact HV.out j hjy hjt
          have hqi : (q : Int) = 100 * (r : Int) + j := by omega
          rw [hqi] at HLJ
          have hjti : ¬ (j : Int) = t := by omega
          have hx1 : (100 * (r : Int) + j) % 18446744073709551616 = 100 * (r : Int) + j := by omega
          have hx2 : ((100 * (r : Int) + j) == (100 * (r : Int) + j)) = true := beqT rfl
          clear hq hqv hqi
          go_wp2_with fail
          refine HLJ.out.mono ?_
          rintro e w5 ⟨rfl, k5, hw⟩
          have HF5 := Lib.hid (HFr.out.drewN k5)
          rw [← hw] at HF5
          clear hw
          go_wp2_with fail
          go_roundw
          case rel => exact ⟨j + 1, HJY.out, by go_num, HF5.out⟩
          case measure => have := HJY.out; simp [intOf]; omega
      · have hxx : ((x : Int) == (x : Int)) = true := beqT rfl
        have huu : ((u : Int) + 1 == (u : Int) + 1) = true := beqT rfl
        go_wp2_with fail
        refine (next_m HFr.out.x.m HFr.out.x.z HU3.out _ (adr_0 _ _)).mono ?_
        rintro e w5 ⟨rfl, k5, hw⟩
        have HF5 := Lib.hid (HFr.out.drewN k5)
        rw [← hw] at HF5
        clear hw
        go_wp2_with fail
        have HN' := HN.out
        refine (holds_any HF5.out HSZ.out (by rw [HN']; exact hn) HZ.out HH.out).mono ?_
        rintro e w6 ⟨rfl, k6, hw⟩
        have HF6 := Lib.hid (HF5.out.drewN k6)
        rw [← hw] at HF6
        clear hw
        go_wp2_with fail
        refine (known_any _).mono ?_
        rintro e w7 ⟨rfl, hb⟩
        have HB := Lib.hid (HF6.out.x.known hb)
        clear hb
        go_wp2_with fail
        go_ret
        exact ⟨rfl, HB.out⟩
end Go.Proofs.Ytpgnadngiaibeaa
