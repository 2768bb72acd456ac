/- The walk of the statement MemRoom: it returns true. Condition: the row reads as integers. -/
import Derived.Test.YtpgnadngiaibeaaMemFillW
namespace Go.Proofs.Ytpgnadngiaibeaa
open Go Go.RowKit
/-- what a walk asks of the two lists, at one index -/
theorem FRel.at {w wr : World} {b W h : Nat} {now old : List Ob} {va vs : Value} {R : Nat → Value} {ns : List Nat} {os : List Ob} (f : FRel w b W h now old (aL os) (sL ns) va vs wr R) (he : os.length = ns.length) :
    ∃ a cap a' cap', va = .slice a ns.length cap ∧ vs = .slice a' ns.length cap' ∧ ns.length ≤ cap ∧ cap ≤ 9223372036854775807 ∧ ns.length ≤ cap' ∧ cap' ≤ 9223372036854775807 := by
  obtain ⟨a, cap, h1, h2, h3, _⟩ := rowI f.oa
  obtain ⟨a', cap', h4, h5, h6, _⟩ := rowI f.os
  rw [aL_length, he] at h1 h2
  rw [sL_length] at h4 h5
  exact ⟨a, cap, a', cap', h1, h4, h2, h3, h5, h6⟩
theorem FRel.cellA {w wr : World} {b W h : Nat} {now old : List Ob} {a : Option Addr} {n cap : Nat} {vs : Value} {R : Nat → Value} {ls : List Int} {os : List Ob} (f : FRel w b W h now old (aL os) ls (.slice a n cap) vs wr R) {j : Nat} (hj : j < os.length) :
    ∃ g, a = some ⟨g, 0, none⟩ ∧ wr.cell? ⟨g, j, none⟩ = some (.int .i64 (((start os j : Nat) : Int) + 1)) ∧ wr.frozen? ⟨g, j, none⟩ = false := by
  obtain ⟨a', cap', h1, _, _, h4⟩ := rowI f.oa
  injection h1 with e1 _ _
  subst e1
  obtain ⟨g, h5, _, h6, h7⟩ := h4 j _ (aL_get os hj)
  exact ⟨g, h5, h6, h7⟩
theorem FRel.cellS {w wr : World} {b W h : Nat} {now old : List Ob} {a : Option Addr} {n cap : Nat} {va : Value} {R : Nat → Value} {la : List Int} {ns : List Nat} (f : FRel w b W h now old la (sL ns) va (.slice a n cap) wr R) {j : Nat} (hj : j < ns.length) :
    ∃ g, a = some ⟨g, 0, none⟩ ∧ wr.cell? ⟨g, j, none⟩ = some (.int .i64 ((ns[j] : Nat) : Int)) ∧ wr.frozen? ⟨g, j, none⟩ = false := by
  obtain ⟨a', cap', h1, _, _, h4⟩ := rowI f.os
  injection h1 with e1 _ _
  subst e1
  obtain ⟨g, h5, _, h6, h7⟩ := h4 j _ (sL_get ns hj)
  exact ⟨g, h5, h6, h7⟩
theorem next_m {w : World} {b W h : Nat} {now old : List Ob} {R : Nat → Value} (m : Mem w b W h R now old) (z : WF W h now old) {u : Nat} (hu : used now = u) (A : Int) (hA : adr h W u = A) : Calls Try.prog 27 #[.pointer (some ⟨b, 0, none⟩)] w fun e w' => e = .returned (.int .i64 A) ∧ ∃ n, w' = w.drewN n := by
  have := next_any m z.sizes
  rw [rows_cells, half_now, flat_length, hu, hA] at this
  exact this
theorem free_m {w : World} {b W h : Nat} {now old : List Ob} {R : Nat → Value} (m : Mem w b W h R now old) (z : WF W h now old) {u : Nat} (hu : used now = u) (A : Int) (hA : (W : Int) - u = A) : Calls Try.prog 28 #[.pointer (some ⟨b, 0, none⟩)] w fun e w' => e = .returned (.int .i64 A) ∧ ∃ n, w' = w.drewN n := by
  have := free_any m z.sizes
  rw [rows_cells, half_now, flat_length, hu, hA] at this
  exact this
theorem MW.known {w : World} {b W h : Nat} {now old : List Ob} {wr w5 : World} {R : Nat → Value} (x : MW w b W h now old wr R) (hb : Below wr.heap.size wr w5) : Below w.heap.size w w5 :=
  x.fr.trans ⟨hb.os, hb.tape, hb.output, hb.size, fun i hi => hb.block i (Nat.lt_of_lt_of_le hi x.fr.size)⟩
theorem start_fobs (ns : List Nat) {j : Nat} (h : j < ns.length) : start (fobs ns) (j + 1) = start (fobs ns) j + (1 + ns[j]) := by
  have hj : j < (fobs ns).length := by rw [fobs_length]; exact h
  rw [start_succ _ _ hj]
  have := fobs_get ns h
  rw [List.getElem?_eq_getElem hj] at this
  rw [Option.some.inj this, fob_len]
set_option maxRecDepth 100000 in
set_option maxHeartbeats 4000000 in
theorem memRoom_walk (k0 : Int) {v : Value} {zs : List Int} (w : World) (hv : IntsV w v zs) : Calls Try.prog 6 #[.int .i64 k0, v] w fun e w' => e = .returned (.bool true) ∧ Below w.heap.size w w' := by
  go_enter Try.func6, Try.ntmps6
  go_wp2_with fail
  refine (filled_any k0 w hv).mono ?_
  rintro e w1 ⟨W, R, ns, va, vs, rfl, hF, hn, hz, hW1⟩
  obtain ⟨a, cap, a', cap', rfl, rfl, hc1, hc2, hc3, hc4⟩ := hF.at (fobs_length ns)
  have HF := Lib.hid hF
  obtain ⟨N, hN⟩ : ∃ N, ns.length = N := ⟨_, rfl⟩
  have HN := Lib.hid hN
  rw [hN] at hc1 hc3 hn HF ⊢
  have hu : start (fobs ns) N = used (fobs ns) := by rw [← hN, ← fobs_length ns, start_len]
  have HU := Lib.hid hu
  have hun := hF.x.z.un
  have hst : ∀ j, j ≤ N → start (fobs ns) j ≤ used (fobs ns) := fun j hj => by
    rw [← hu]
    have := start_mono (fobs ns) hj (by rw [fobs_length, hN]; exact Nat.le_refl _)
    omega
  have HST := Lib.hid hst
  clear hF hz hN hu hst
  go_wp2_with fail
  go_loopw [8, 9] (fun nx i wr => ∃ (k : Nat), k ≤ N ∧ i = .int .i64 k ∧ nx = .int .i64 (((start (fobs ns) k : Nat) : Int) + 1) ∧ FRel w w.heap.size W 0 (fobs ns) [] (aL (fobs ns)) (sL ns) (.slice a N cap) (.slice a' N cap') wr R) (fun _ i _ => N - (intOf i).toNat)
  case atStart => exact ⟨0, Nat.zero_le _, rfl, rfl, HF.out⟩
  case round =>
    obtain ⟨k, hk, rfl, rfl, hFr⟩ := hrel
    have HFr := Lib.hid hFr
    have hsk := HST.out k hk
    obtain ⟨x, hx⟩ : ∃ x, start (fobs ns) k = x := ⟨_, rfl⟩
    have hx0 : ((x : Int) + 1 == (x : Int) + 1) = true := beqT rfl
    by_cases hlt : k < N
    · obtain ⟨g, rfl, hcell, hfz⟩ := hFr.cellA (j := k) (by rw [fobs_length, HN.out]; exact hlt)
      obtain ⟨g', rfl, hcell', hfz'⟩ := hFr.cellS (j := k) (by rw [HN.out]; exact hlt)
      obtain ⟨y, hy⟩ : ∃ y, ns[k]'(by rw [HN.out]; exact hlt) = y := ⟨_, rfl⟩
      have hst2 : start (fobs ns) (k + 1) = x + (1 + y) := by rw [start_fobs ns (by rw [HN.out]; exact hlt), hx, hy]
      have hsk2 := HST.out (k + 1) hlt
      have HST2 := Lib.hid hst2
      rw [hst2] at hsk2
      rw [hx] at hcell
      rw [hy] at hcell'
      rw [hx]
      clear hst2 hFr hx
      go_wp2_with fail
      go_roundw
      case rel => exact ⟨k + 1, hlt, by go_num, by rw [HST2.out]; congr 1; omega, HFr.out⟩
      case measure => simp [intOf]; omega
    · obtain rfl : k = N := by omega
      have hxu : used (fobs ns) = x := by rw [← HU.out, hx]
      have hxW : x ≤ W := by rw [← hxu]; exact hun
      rw [hx]
      have HX := Lib.hid hxu
      have hwx : (W : Int) - x = W - (x + 1) + 1 := by omega
      clear hx hxu hFr hun hsk
      go_wp2_with fail
      refine (next_m HFr.out.x.m HFr.out.x.z HX.out _ (adr_0 _ _)).mono ?_
      rintro e w2 ⟨rfl, k1, hw⟩
      have HF1 := Lib.hid (HFr.out.drewN k1)
      rw [← hw] at HF1
      clear hw
      go_wp2_with fail
      refine (free_m HF1.out.x.m HF1.out.x.z HX.out _ hwx).mono ?_
      rintro e w3 ⟨rfl, k2, hw⟩
      have HF2 := Lib.hid (HF1.out.drewN k2)
      rw [← hw] at HF2
      clear hw
      go_wp2_with fail
      refine (words_any HF2.out.x.m).mono ?_
      rintro e w2 ⟨rfl, rfl⟩
      go_wp2_with fail
      refine (half_any HF2.out.x.m).mono ?_
      rintro e w2 ⟨rfl, rfl⟩
      go_wp2_with fail
      refine (known_any _).mono ?_
      rintro e w5 ⟨rfl, hb⟩
      have HB := Lib.hid (HF2.out.x.known hb)
      clear hb
      go_wp2_with fail
      go_ret
      exact ⟨rfl, HB.out⟩
end Go.Proofs.Ytpgnadngiaibeaa
