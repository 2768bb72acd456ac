/- The walk of the statement MemTwice: it returns true. Condition: the row reads as integers. -/
import Derived.Test.YtpgnadngiaibeaaMemMove
namespace Go.Proofs.Ytpgnadngiaibeaa
open Go Go.RowKit
theorem idxAt_nil (h W : Nat) (a : Int) : idxAt [] h W a = none := rfl
set_option maxRecDepth 100000 in
set_option maxHeartbeats 4000000 in
theorem memTwice_walk (k0 : Int) {v : Value} {zs : List Int} (w : World) (hv : IntsV w v zs) :
    Calls Try.prog 10 #[.int .i64 k0, v] w fun e w' => e = .returned (.bool true) ∧ Below w.heap.size w w' := by
  go_enter Try.func10, Try.ntmps10
  go_wp2_with fail
  refine (filled_any k0 w hv).mono ?_
  rintro e w1 ⟨W, R, ns, va, vs, rfl, hF, hn, hz, hW1⟩
  obtain ⟨a, cap, a', cap', rfl, rfl, hc1, hc2, hc3, hc4⟩ := hF.at (fobs_length ns)
  have HF := Lib.hid hF
  obtain ⟨N, hN⟩ : ∃ N, ns.length = N := ⟨_, rfl⟩
  have HN := Lib.hid hN
  have hst : ∀ j, j < N → start (fobs ns) j + 1 ≤ W ∧ W ≤ 65536 := fun j hj => hF.addr_le (by rw [fobs_length, hN]; exact hj)
  have HST := Lib.hid hst
  rw [hN] at hc1 hc3 hn HF ⊢
  clear hF hz hN hst
  go_wp2_with fail
  refine HF.out.flip.mono ?_
  rintro e w2 ⟨rfl, R2, hF2⟩
  have HF2 := Lib.hid (show FRel w w.heap.size W 1 [] (fobs ns) (aL (fobs ns)) (sL ns) (.slice a N cap) (.slice a' N cap') w2 R2 from hF2)
  clear hF2
  go_wp2_with fail
  refine (half_any HF2.out.x.m).mono ?_
  rintro e w3 ⟨rfl, rfl⟩
  go_wp2_with fail
  refine HF2.out.flip.mono ?_
  rintro e w3 ⟨rfl, R3, hF3⟩
  have HF3 := Lib.hid (show FRel w w.heap.size W 0 [] [] (aL (fobs ns)) (sL ns) (.slice a N cap) (.slice a' N cap') w3 R3 from hF3)
  clear hF3
  go_wp2_with fail
  go_loopw [8] (fun i wr => ∃ (j : Nat), j ≤ N ∧ i = .int .i64 j ∧ FRel w w.heap.size W 0 [] [] (aL (fobs ns)) (sL ns) (.slice a N cap) (.slice a' N cap') wr R3) (fun i _ => N - (intOf i).toNat)
  case atStart => exact ⟨0, Nat.zero_le _, rfl, HF3.out⟩
  case round =>
    obtain ⟨j, hj, rfl, hFr⟩ := hrel
    have HFr := Lib.hid hFr
    by_cases hlt : j < N
    · obtain ⟨g, rfl, hcell, hfz⟩ := hFr.cellA (j := j) (by rw [fobs_length, HN.out]; exact hlt)
      have hle := HST.out j hlt
      obtain ⟨x, hx⟩ : ∃ x, start (fobs ns) j = x := ⟨_, rfl⟩
      rw [hx] at hcell hle
      have HJN := Lib.hid hlt
      have HL := Lib.hid (load_err ((x : Int) + 1) 0 (field_miss hFr.x.m hFr.x.z ((x : Int) + 1) 0 (by omega) (idxAt_nil _ _ _)))
      clear hFr hx
      go_wp2_with fail
      refine HL.out.mono ?_
      rintro e w4 ⟨rfl, k4, hw⟩
      have HF4 := Lib.hid (HFr.out.drewN k4)
      rw [← hw] at HF4
      clear hw
      obtain ⟨g2, e2, hcell2, hfz2⟩ := HF4.out.cellA (j := j) (by rw [fobs_length, HN.out]; exact HJN.out)
      obtain rfl : g2 = g := by injection e2 with e2; injection e2 with e2; exact e2.symm
      obtain ⟨x2, hx2⟩ : ∃ x2, start (fobs ns) j = x2 := ⟨_, rfl⟩
      have hle2 := HST.out j HJN.out
      rw [hx2] at hcell2 hle2
      have HM := Lib.hid (move_miss HF4.out.x.m HF4.out.x.z ((x2 : Int) + 1) (by omega) (idxAt_nil _ _ _))
      clear e2 hcell hfz hx2 hle
      go_wp2_with fail
      refine HM.out.mono ?_
      rintro e w5 ⟨rfl, rfl⟩
      go_wp2_with fail
      go_roundw
      case rel => exact ⟨j + 1, HJN.out, by go_num, HF4.out⟩
      case measure => have := HJN.out; simp [intOf]; omega
    · have hww : ((W : Int) == W) = true := beqT rfl
      clear hFr
      go_wp2_with fail
      refine (half_any HFr.out.x.m).mono ?_
      rintro e w4 ⟨rfl, rfl⟩
      go_wp2_with fail
      refine (next_m HFr.out.x.m HFr.out.x.z rfl 1 rfl).mono ?_
      rintro e w5 ⟨rfl, k5, hw⟩
      have HF5 := Lib.hid (HFr.out.drewN k5)
      rw [← hw] at HF5
      clear hw
      go_wp2_with fail
      refine (free_m HF5.out.x.m HF5.out.x.z rfl W (by simp [used])).mono ?_
      rintro e w6 ⟨rfl, k6, hw⟩
      have HF6 := Lib.hid (HF5.out.drewN k6)
      rw [← hw] at HF6
      clear hw
      go_wp2_with fail
      refine (words_any HF6.out.x.m).mono ?_
      rintro e w7 ⟨rfl, rfl⟩
      go_wp2_with fail
      refine (known_any _).mono ?_
      rintro e w8 ⟨rfl, hb⟩
      have HB := Lib.hid (HF6.out.x.known hb)
      clear hb
      go_wp2_with fail
      go_ret
      exact ⟨rfl, HB.out⟩
end Go.Proofs.Ytpgnadngiaibeaa
