/- The walk of the statement MemMoves: it returns true. Condition: the rows read as integers. -/
import Derived.Test.YtpgnadngiaibeaaMemMovesM
import Derived.Test.YtpgnadngiaibeaaMemTwiceW
namespace Go.Proofs.Ytpgnadngiaibeaa
open Go Go.RowKit
theorem idxAt_far {os : List Ob} {W : Nat} {A : Int} (h : A ≤ W) : idxAt os 1 W A = none := by
  cases e : idxAt os 1 W A with
  | none => rfl
  | some j =>
    obtain ⟨_, h2⟩ := idxAt_some e
    rw [adr_1] at h2
    omega
/-- what a walk asks of a row that reads as integers -/
theorem row_gen {w : World} {v : Value} {zs : List Int} (hv : IntsV w v zs) : ∃ (a : Option Addr) (K cap : Nat), v = .slice a K cap ∧ K ≤ cap ∧ cap ≤ 9223372036854775807 ∧ ∀ j, j < K → ∃ (g off : Nat) (z : Int), a = some ⟨g, off, none⟩ ∧ g < w.heap.size ∧ w.cell? ⟨g, off + j, none⟩ = some (.int .i64 z) := by
  rcases hv with ⟨rfl, _⟩ | ⟨g, off, cap, rfl, hg, h1, h2, hc, _⟩
  · exact ⟨none, 0, 0, rfl, by omega, by omega, fun j h => by omega⟩
  · exact ⟨_, _, cap, rfl, h1, h2, fun j h => ⟨g, off, _, rfl, hg, hc j h⟩⟩
section
variable {w wr : World} {b W : Nat} {R : Nat → Value} {now old : List Ob} {la ls : List Int} {va vs : Value}
theorem look_fob (f : FRel w b W 1 now old la ls va vs wr R) {i n p c : Nat} (hp : now[p]? = some (fob i n)) (hc : start now p = c) (A : Int) (hA : (W : Int) + c + 1 = A) (hA2 : A ≤ 9223372036854775807) :
    Calls Try.prog 38 #[.pointer (some ⟨b, 0, none⟩), .int .i64 A] wr fun e w' => e = .returned (.tuple #[.int .i64 1, .int .i64 n, .int .i64 n, .int .i64 0]) ∧ FRel w b W 1 now old la ls va vs w' R := by
  have hi : idxAt now 1 W A = some p := by rw [← hA, ← adr_1, ← hc]; exact idxAt_of (List.getElem?_eq_some_iff.1 hp).1
  refine (look_hit f.x.m f.x.z A hA2 hi hp).mono ?_
  rintro e w' ⟨rfl, k, rfl⟩
  exact ⟨by rw [fob_len]; rfl, f.drewN k⟩
theorem load_fob (f : FRel w b W 1 now old la ls va vs wr R) {i n p c k : Nat} (hp : now[p]? = some (fob i n)) (hc : start now p = c) (A : Int) (hA : (W : Int) + c + 1 = A) (hA2 : A ≤ 9223372036854775807) (hk : k < n) :
    Calls Try.prog 33 #[.pointer (some ⟨b, 0, none⟩), .int .i64 A, .int .i64 k] wr fun e w' => e = .returned (.tuple #[.int .u64 (100 * (i : Int) + k), .int .i64 0]) ∧ FRel w b W 1 now old la ls va vs w' R := by
  have hi : idxAt now 1 W A = some p := by rw [← hA, ← adr_1, ← hc]; exact idxAt_of (List.getElem?_eq_some_iff.1 hp).1
  refine (load_hit f.x.m f.x.z A k hA2 hi hp (by rw [fob_len]; exact hk)).mono ?_
  rintro e w' ⟨rfl, q, rfl⟩
  exact ⟨by rw [fob_get hk]; simp, f.drewN q⟩
end
set_option maxRecDepth 100000 in
set_option maxHeartbeats 8000000 in
theorem memMoves_walk (k0 : Int) {v v2 : Value} {zs zs2 : List Int} (w : World) (hv : IntsV w v zs) (hv2 : IntsV w v2 zs2) :
    Calls Try.prog 9 #[.int .i64 k0, v, v2] w fun e w' => e = .returned (.bool true) ∧ Below w.heap.size w w' := by
  obtain ⟨pa, K, pc, rfl, hp1, hp2, hprow⟩ := row_gen hv2
  have HPR := Lib.hid hprow
  clear hprow hv2
  go_enter Try.func9, Try.ntmps9
  go_wp2_with fail
  refine (filled_any k0 w hv).mono ?_
  rintro e w1 ⟨W, R, ns, va, vs, rfl, hF, hn, hz, hW1⟩
  obtain ⟨a, cap, a', cap', rfl, rfl, hc1, hc2, hc3, hc4⟩ := hF.at (fobs_length ns)
  have HF := Lib.hid hF
  have HZ := Lib.hid hz
  obtain ⟨N, hN⟩ : ∃ N, ns.length = N := ⟨_, rfl⟩
  have HN := Lib.hid hN
  have hst : ∀ j, j < N → start (fobs ns) j + 1 ≤ W ∧ W ≤ 65536 := fun j hj => hF.addr_le (by rw [fobs_length, hN]; exact hj)
  have HST := Lib.hid hst
  have HUW := Lib.hid hF.x.z.un
  rw [hN] at hc1 hc3 hn HF ⊢
  clear hF hz hN hst
  go_wp2_with fail
  refine HF.out.flip.mono ?_
  rintro e w2 ⟨rfl, R2, hF2⟩
  have HF2 := Lib.hid (show FRel w w.heap.size W 1 [] (fobs ns) (aL (fobs ns)) (sL ns) (.slice a N cap) (.slice a' N cap') w2 R2 from hF2)
  clear hF2
  go_wp2_with fail
  refine (next_m HF2.out.x.m HF2.out.x.z rfl ((W : Int) + 0 + 1) (adr_1 _ _)).mono ?_
  rintro e w3 ⟨rfl, k3, hw⟩
  have HF3 := Lib.hid (HF2.out.drewN k3)
  rw [← hw] at HF3
  clear hw
  go_wp2_with fail
  go_loopw [10, 11] (fun nx i wr => ∃ (j u : Nat) (now old : List Ob) (R : Nat → Value), j ≤ 100 ∧ i = .int .i64 j ∧ nx = .int .i64 ((W : Int) + u + 1) ∧ used now = u ∧ FRel w w.heap.size W 1 now old (aL (fobs ns)) (sL ns) (.slice a N cap) (.slice a' N cap') wr R ∧ Moved W ns now old) (fun _ i _ => 100 - (intOf i).toNat)
  case atStart => exact ⟨0, 0, [], fobs ns, R2, by omega, rfl, by go_num, rfl, HF3.out, Moved.init W ns⟩
  case round =>
    obtain ⟨j, u, now, old, R3, hj, rfl, rfl, hu, hFr, hM⟩ := hrel
    have HFr := Lib.hid hFr
    have HMV := Lib.hid hM
    have HU := Lib.hid hu
    have hun := hFr.x.z.un
    rw [hu] at hun
    clear hFr hM hu
    by_cases hgo : j < K ∧ j < 100 ∧ 0 < N
    · obtain ⟨h1, h2, h3⟩ := hgo
      obtain ⟨g, off, z, hpa, hg, hc⟩ := HPR.out j h1
      have hc' : wr.cell? ⟨g, off + j, none⟩ = some (.int .i64 z) := (HFr.out.x.fr.cell (p := ⟨g, off + j, none⟩) hg).trans hc
      subst hpa
      clear hc
      go_wp2_with fail
      refine (among_any z N (by omega) (by omega) _).mono ?_
      rintro e w' ⟨⟨r, hr, rfl⟩, rfl⟩
      have hrN : r < N := by omega
      have hrn : r < ns.length := by rw [HN.out]; exact hrN
      obtain ⟨y, hy⟩ : ∃ y, ns[r] = y := ⟨_, rfl⟩
      have hy8 := HZ.out _ (List.getElem_mem hrn)
      rw [hy] at hy8
      have HY := Lib.hid hy
      obtain ⟨x, hx⟩ : ∃ x, start (fobs ns) r = x := ⟨_, rfl⟩
      have hxl := HST.out r hrN
      rw [hx] at hxl
      have HX := Lib.hid hx
      obtain ⟨g1, rfl, hcell, hfz⟩ := HFr.out.cellA (j := r) (by rw [fobs_length]; exact hrn)
      rw [hx] at hcell
      have HMA := Lib.hid (move_at HFr.out HMV.out hrn HUW.out ((x : Int) + 1) (by rw [hx]) (by omega))
      clear hr hx hy hc'
      go_wp2_with fail
      refine HMA.out.mono ?_
      rintro e w4 ⟨now', old', R4, t, p, c, rfl, hF4, hM4, ho4, ht0, hnp, hsp, rfl, hcu, hor⟩
      have HF4 := Lib.hid hF4
      have HM4 := Lib.hid hM4
      have HO4 := Lib.hid ho4
      have HNP := Lib.hid hnp
      have HSP := Lib.hid hsp
      rw [HY.out] at hcu hor HNP
      rw [HU.out] at hor
      have hun4 := hF4.x.z.un
      obtain ⟨u4, hu4⟩ : ∃ u4, used now' = u4 := ⟨_, rfl⟩
      have HU4 := Lib.hid hu4
      rw [hu4] at hor hun4 hcu
      have HMB := Lib.hid (move_again HF4.out HM4.out hrn HO4.out ht0 ((x : Int) + 1) (by rw [HX.out]) (by omega))
      have hcast : ((W + c + 1 : Nat) : Int) = (W : Int) + c + 1 := by omega
      rw [hcast] at HMB ⊢
      obtain ⟨g2, e2, hcell2, hfz2⟩ := HF4.out.cellA (j := r) (by rw [fobs_length]; exact hrn)
      obtain rfl : g2 = g1 := by injection e2 with e2; injection e2 with e2; exact e2.symm
      rw [HX.out] at hcell2
      clear hF4 hM4 ho4 hnp hsp hu4 ht0 hcast e2 hcell hfz
      go_wp2_with fail
      refine HMB.out.mono ?_
      rintro e w5 ⟨rfl, hF5⟩
      have HF5 := Lib.hid hF5
      clear hF5 hcell2 hfz2
      obtain ⟨g5, rfl, hcell5, hfz5⟩ := HF5.out.cellS (j := r) hrn
      rw [HY.out] at hcell5
      have HLK := Lib.hid (look_fob HF5.out HNP.out HSP.out _ rfl (by omega))
      rcases hor with ⟨hlo, hun5⟩ | ⟨hlo, hun5⟩
      · have hne : ¬ (c : Int) = u := by omega
        have hgt : ¬ (W : Int) + u + 1 < (W : Int) + c + 1 := by omega
        have HUN := Lib.hid hun5
        clear hun5
        go_wp2_with fail
        refine HLK.out.mono ?_
        rintro e w6 ⟨rfl, hF6⟩
        have HF6 := Lib.hid hF6
        clear hF6 hcell5 hfz5
        obtain ⟨g6, e6, hcell6, hfz6⟩ := HF6.out.cellS (j := r) hrn
        obtain rfl : g6 = g5 := by injection e6 with e6; injection e6 with e6; exact e6.symm
        rw [HY.out] at hcell6
        clear e6
        go_wp2_with fail
        go_loopw [21] (fun i wx => ∃ (k : Nat), k ≤ y ∧ i = .int .i64 k ∧ FRel w w.heap.size W 1 now' old' (aL (fobs ns)) (sL ns) (.slice (some ⟨g2, 0, none⟩) N cap) (.slice (some ⟨g6, 0, none⟩) N cap') wx R4) (fun i _ => y - (intOf i).toNat)
        case atStart => exact ⟨0, Nat.zero_le _, rfl, HF6.out⟩
        case round =>
          obtain ⟨k, hk, rfl, hF7⟩ := hrel
          have HF7 := Lib.hid hF7
          clear hF7 hcell6 hfz6
          by_cases hky : k < y
          · have HLD := Lib.hid (load_fob HF7.out HNP.out HSP.out _ rfl (by omega) hky)
            have HKY := Lib.hid hky
            have hx1 : (100 * (r : Int) + k) % 18446744073709551616 = 100 * (r : Int) + k := by omega
            have hx2 : ((100 * (r : Int) + k) == (100 * (r : Int) + k)) = true := beqT rfl
            go_wp2_with fail
            refine HLD.out.mono ?_
            rintro e w8 ⟨rfl, hF8⟩
            have HF8 := Lib.hid hF8
            clear hF8
            go_wp2_with fail
            go_roundw
            case rel => exact ⟨k + 1, HKY.out, by go_num, HF8.out⟩
            case measure => have := HKY.out; simp [intOf]; omega
          · go_wp2_with fail
            go_roundw
            case rel => exact ⟨j + 1, u, now', old', R4, by omega, by go_num, by go_num, by rw [HU4.out]; exact HUN.out, HF7.out, HM4.out⟩
            case measure => simp [intOf]; omega
      · subst hlo
        have hgt : ¬ (W : Int) + c + 1 < (W : Int) + c + 1 := by omega
        have hee : ((W : Int) + c + 1 == (W : Int) + c + 1) = true := beqT rfl
        have HUN := Lib.hid hun5
        clear hun5
        go_wp2_with fail
        refine HLK.out.mono ?_
        rintro e w6 ⟨rfl, hF6⟩
        have HF6 := Lib.hid hF6
        clear hF6 hcell5 hfz5
        obtain ⟨g6, e6, hcell6, hfz6⟩ := HF6.out.cellS (j := r) hrn
        obtain rfl : g6 = g5 := by injection e6 with e6; injection e6 with e6; exact e6.symm
        rw [HY.out] at hcell6
        clear e6
        go_wp2_with fail
        go_loopw [21] (fun i wx => ∃ (k : Nat), k ≤ y ∧ i = .int .i64 k ∧ FRel w w.heap.size W 1 now' old' (aL (fobs ns)) (sL ns) (.slice (some ⟨g2, 0, none⟩) N cap) (.slice (some ⟨g6, 0, none⟩) N cap') wx R4) (fun i _ => y - (intOf i).toNat)
        case atStart => exact ⟨0, Nat.zero_le _, rfl, HF6.out⟩
        case round =>
          obtain ⟨k, hk, rfl, hF7⟩ := hrel
          have HF7 := Lib.hid hF7
          clear hF7 hcell6 hfz6
          by_cases hky : k < y
          · have HLD := Lib.hid (load_fob HF7.out HNP.out HSP.out _ rfl (by omega) hky)
            have HKY := Lib.hid hky
            have hx1 : (100 * (r : Int) + k) % 18446744073709551616 = 100 * (r : Int) + k := by omega
            have hx2 : ((100 * (r : Int) + k) == (100 * (r : Int) + k)) = true := beqT rfl
            go_wp2_with fail
            refine HLD.out.mono ?_
            rintro e w8 ⟨rfl, hF8⟩
            have HF8 := Lib.hid hF8
            clear hF8
            go_wp2_with fail
            go_roundw
            case rel => exact ⟨k + 1, HKY.out, by go_num, HF8.out⟩
            case measure => have := HKY.out; simp [intOf]; omega
          · go_wp2_with fail
            go_roundw
            case rel => exact ⟨j + 1, c + 1 + y, now', old', R4, by omega, by go_num, by go_num, by rw [HU4.out]; exact HUN.out, HF7.out, HM4.out⟩
            case measure => simp [intOf]; omega
    · have hdis : ¬ j < K ∨ (j < K ∧ ¬ j < 100) ∨ (j < K ∧ j < 100 ∧ ¬ 0 < N) := by omega
      have hst2 : ∀ k, k < N → idxAt now 1 W (((start (fobs ns) k : Nat) : Int) + 1) = none := fun k hk => idxAt_far (by have := HST.out k hk; omega)
      have HST2 := Lib.hid hst2
      clear hgo hst2
      rcases hdis with h1 | ⟨h1, h2⟩ | ⟨h1, h2, h3⟩
      all_goals
        go_wp2_with fail
        go_loopw [24] (fun i wx => ∃ (k : Nat), k ≤ N ∧ i = .int .i64 k ∧ FRel w w.heap.size W 1 now old (aL (fobs ns)) (sL ns) (.slice a N cap) (.slice a' N cap') wx R3) (fun i _ => N - (intOf i).toNat)
        case atStart => exact ⟨0, Nat.zero_le _, rfl, HFr.out⟩
        case round =>
          obtain ⟨k, hk, rfl, hF7⟩ := hrel
          have HF7 := Lib.hid hF7
          clear hF7
          by_cases hkN : k < N
          · obtain ⟨g7, rfl, hcell7, hfz7⟩ := HF7.out.cellA (j := k) (by rw [fobs_length, HN.out]; exact hkN)
            have hle := HST.out k hkN
            have HLE := Lib.hid (load_err _ 0 (field_miss HF7.out.x.m HF7.out.x.z (((start (fobs ns) k : Nat) : Int) + 1) 0 (by omega) (HST2.out k hkN)))
            obtain ⟨x, hx⟩ : ∃ x, start (fobs ns) k = x := ⟨_, rfl⟩
            rw [hx] at hcell7 HLE hle
            have HKN := Lib.hid hkN
            clear hx
            go_wp2_with fail
            refine HLE.out.mono ?_
            rintro e w8 ⟨rfl, n8, hw⟩
            have HF8 := Lib.hid (HF7.out.drewN n8)
            rw [← hw] at HF8
            clear hw
            go_wp2_with fail
            go_roundw
            case rel => exact ⟨k + 1, HKN.out, by go_num, HF8.out⟩
            case measure => have := HKN.out; simp [intOf]; omega
          · have hnn : ((W : Int) + u + 1 == (W : Int) + u + 1) = true := beqT rfl
            go_wp2_with fail
            refine (next_m HF7.out.x.m HF7.out.x.z HU.out ((W : Int) + u + 1) (adr_1 _ _)).mono ?_
            rintro e w8 ⟨rfl, k8, hw⟩
            have HF8 := Lib.hid (HF7.out.drewN k8)
            rw [← hw] at HF8
            clear hw
            go_wp2_with fail
            refine (half_any HF8.out.x.m).mono ?_
            rintro e w9 ⟨rfl, rfl⟩
            go_wp2_with fail
            refine (known_any _).mono ?_
            rintro e w10 ⟨rfl, hb⟩
            have HB := Lib.hid (HF8.out.x.known hb)
            clear hb
            go_wp2_with fail
            go_ret
            exact ⟨rfl, HB.out⟩
end Go.Proofs.Ytpgnadngiaibeaa
