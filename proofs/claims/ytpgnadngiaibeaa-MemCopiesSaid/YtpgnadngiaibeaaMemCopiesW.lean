/- The walk of the statement MemCopies: it returns true. Condition: the row reads as integers. -/
import Derived.Test.YtpgnadngiaibeaaMemCopy
import Derived.Test.YtpgnadngiaibeaaMemFreshW
namespace Go.Proofs.Ytpgnadngiaibeaa
open Go Go.RowKit
section
variable {w w1 w2 wr : World} {b c W h : Nat} {now old : List Ob} {la ls : List Int} {va vs : Value} {R V : Nat → Value}
theorem FRel.kept (f : FRel w b W h now old la ls va vs w1 R) {O : Nat → Prop} (hf : Fr O w1 w2) (hb : ∀ i, O i → w.heap.size ≤ i) (h1 : ∀ i, Own b R i → ¬ O i) (h2 : ∀ g, va.ownBlock = some g → ¬ O g) (h3 : ∀ g, vs.ownBlock = some g → ¬ O g) : FRel w b W h now old la ls va vs w2 R :=
  ⟨⟨f.x.m.kept hf h1, f.x.z, f.x.ge, f.x.fr.trans (hf.below f.x.fr.size hb)⟩, hf.own f.oa h2, hf.own f.os h3, f.na, f.ns, f.ne⟩
theorem FRel.below (f : FRel w b W h now old la ls va vs w1 R) (hb : Below w1.heap.size w1 w2) : FRel w b W h now old la ls va vs w2 R :=
  f.kept (Fr.of_below (O := fun _ => False) hb) (fun _ => False.elim) (fun _ _ => id) (fun _ _ => id) (fun _ _ => id)
/-- the copy, beside the same two lists -/
theorem FRel.copied (f : FRel w b W h now old la ls va vs w1 R) (m : Mem w2 c W h V now old) (hs : ∀ i, Own c V i → w1.heap.size ≤ i) (hb : Below w1.heap.size w1 w2) : FRel w c W h now old la ls va vs w2 V := by
  have g := f.below hb
  refine ⟨⟨m, f.x.z, fun i hi => Nat.le_trans f.x.fr.size (hs i hi), g.x.fr⟩, g.oa, g.os, fun k hk ho => ?_, fun k hk ho => ?_, f.ne⟩
  · have := (f.oa.lt k hk).2; have := hs k ho; omega
  · have := (f.os.lt k hk).2; have := hs k ho; omega
theorem FRel.copy (f : FRel w b W h now old la ls va vs w1 R) : Calls Try.prog 21 #[.pointer (some ⟨b, 0, none⟩)] w1 fun e w' => e = .returned (.pointer (some ⟨w1.heap.size, 0, none⟩)) ∧ ∃ V, MW w1 w1.heap.size W h now old w' V := by
  refine (copy_any f.x.m f.x.z.sizes).mono ?_
  rintro e w' ⟨rfl, V, h1, h2, h3⟩
  exact ⟨rfl, V, h1, f.x.z, h2, h3⟩
/-- one more object of another kind, or none -/
theorem MW.alloc_ref (x : MW w c W 0 now [] w1 V) : Calls Try.prog 35 #[.pointer (some ⟨c, 0, none⟩), .int .i64 2, .int .i64 1, .int .i64 1] w1 fun e w' => (∃ a k : Int, e = .returned (.tuple #[.int .i64 a, .int .i64 k])) ∧ Below w.heap.size w w' := by
  by_cases hf : used now + 1 + 1 ≤ W
  · refine (alloc_to x.m x.z 2 1 1 2 1 1 _ rfl rfl rfl rfl (by decide) hf).mono ?_
    rintro e w' ⟨rfl, R', m', hs, hfr⟩
    exact ⟨⟨_, _, rfl⟩, x.fr.trans (hfr.below x.fr.size x.ge)⟩
  · refine (alloc_full x.m x.z 2 1 1 (by decide) (by omega)).mono ?_
    rintro e w' ⟨rfl, n, rfl⟩
    exact ⟨⟨_, _, rfl⟩, (x.drewN n).fr⟩
end
set_option maxRecDepth 100000 in
set_option maxHeartbeats 8000000 in
theorem memCopies_walk (k0 x0 : Int) (hx : 0 ≤ x0 ∧ x0 ≤ 18446744073709551615) {v : Value} {zs : List Int} (w : World) (hv : IntsV w v zs) :
    Calls Try.prog 11 #[.int .i64 k0, v, .int .u64 x0] w fun e w' => e = .returned (.bool true) ∧ Below w.heap.size w w' := by
  obtain ⟨x, hxn⟩ : ∃ x : Nat, x0 = x := ⟨x0.toNat, by omega⟩
  subst hxn
  have hx2 : x < 18446744073709551616 := by omega
  clear hx
  go_enter Try.func11, Try.ntmps11
  go_wp2_with fail
  refine (filled_any k0 w hv).mono ?_
  rintro e w1 ⟨W, R, ns, va, vs, rfl, hF, hn, hz, hW1⟩
  obtain ⟨a, cap, a', cap', rfl, rfl, hc1, hc2, hc3, hc4⟩ := hF.at (fobs_length ns)
  have HF := Lib.hid hF
  have HZ := Lib.hid hz
  obtain ⟨N, hN⟩ : ∃ N, ns.length = N := ⟨_, rfl⟩
  have HN := Lib.hid hN
  have HNN := Lib.hid hn
  have hst : ∀ j, j < N → start (fobs ns) j + 1 ≤ W ∧ W ≤ 65536 := fun j hj => hF.addr_le (by rw [fobs_length, hN]; exact hj)
  have HST := Lib.hid hst
  rw [hN] at hc1 hc3 hn HF ⊢
  clear hF hz hN hst
  go_wp2_with fail
  refine HF.out.copy.mono ?_
  rintro e w2 ⟨rfl, V, hM⟩
  have HM := Lib.hid hM
  clear hM
  go_wp2_with fail
  go_loopw [11] (fun i wr => ∃ (j : Nat) (now : List Ob), j ≤ N ∧ i = .int .i64 j ∧ MW w1 w1.heap.size W 0 now [] wr V ∧ sz now = ns) (fun i _ => N - (intOf i).toNat)
  case atStart => exact ⟨0, _, Nat.zero_le _, rfl, HM.out, sz_fobs ns⟩
  case round =>
    obtain ⟨j, now, hj, rfl, hMr, hsz⟩ := hrel
    have HMr := Lib.hid hMr
    have HSZ := Lib.hid hsz
    clear hMr hsz
    have HFr := Lib.hid (HF.out.below HMr.out.fr)
    by_cases hlt : j < N
    · have hjn : j < ns.length := by rw [HN.out]; exact hlt
      obtain ⟨o, ho, hol⟩ := get_of_sz HSZ.out hjn
      have hy8 := HZ.out _ (List.getElem_mem hjn)
      obtain ⟨g, rfl, hcell, hfz⟩ := HFr.out.cellA (j := j) (by rw [fobs_length]; exact hjn)
      have hle := HST.out j hlt
      obtain ⟨s, hs⟩ : ∃ s, start (fobs ns) j = s := ⟨_, rfl⟩
      rw [hs] at hcell hle
      have HSTO := Lib.hid (store_to HMr.out.m HMr.out.z ((s : Int) + 1) 0 x 0 x rfl rfl hx2 (by omega) (idx_start (List.getElem?_eq_some_iff.1 ho).1 (by rw [start_congr (HSZ.out.trans (sz_fobs ns).symm), hs])) ho (by rw [hol]; omega))
      have HO := Lib.hid ho
      have HJN := Lib.hid hlt
      clear ho hol hy8 hs hjn
      go_wp2_with fail
      refine HSTO.out.mono ?_
      rintro e w3 ⟨rfl, m3, z3, f3⟩
      have HM3 := Lib.hid (HMr.out.next m3 z3 (fun _ h => .inl h) f3)
      clear m3 z3 f3
      go_wp2_with fail
      go_roundw
      case rel => exact ⟨j + 1, _, HJN.out, by go_num, HM3.out, (sz_set HO.out (by simp)).trans HSZ.out⟩
      case measure => have := HJN.out; simp [intOf]; omega
    · go_wp2_with fail
      refine HMr.out.alloc_ref.mono ?_
      rintro e w3 ⟨⟨ra, rk, rfl⟩, hb3⟩
      have HF3 := Lib.hid (HF.out.below hb3)
      clear hb3
      go_wp2_with fail
      refine (holds_any HF3.out (sz_fobs ns) HNN.out HZ.out (held_fobs ns (-1))).mono ?_
      rintro e w4 ⟨rfl, n4, hw4⟩
      have HF4 := Lib.hid (HF3.out.drewN n4)
      rw [← hw4] at HF4
      clear hw4
      go_wp2_with fail
      refine (copy_any HF4.out.x.m HF4.out.x.z.sizes).mono ?_
      rintro e w5 ⟨rfl, V5, m5, s5, b5⟩
      have HF5 := Lib.hid (HF4.out.below b5)
      have HD5 := Lib.hid (HF4.out.copied m5 s5 b5)
      have HS5 := Lib.hid s5
      have HB5 := Lib.hid b5.size
      clear m5 s5 b5
      go_wp2_with fail
      refine (flip_any HF5.out.x.m HF5.out.x.z).mono ?_
      rintro e w6 ⟨rfl, R6, m6, s6, f6⟩
      have z6 : WF W 1 [] (fobs ns) := ⟨HF5.out.x.z.w0, HF5.out.x.z.w1, by decide, by simp [used], HF5.out.x.z.un, by simp, HF5.out.x.z.okn, by simp [Fresh]⟩
      have HX6 := Lib.hid (HF5.out.x.next (show Mem w6 w.heap.size W 1 R6 [] (fobs ns) from m6) z6 (fun i h => .inl (s6 i h)) f6)
      have HD6 := Lib.hid (HD5.out.kept f6 HF5.out.x.ge (fun i hi ho => by have := HS5.out i hi; have := HF4.out.x.m.own_lt i ho; omega) HF5.out.na HF5.out.ns)
      clear m6 s6 f6 z6
      go_wp2_with fail
      refine (holds_any HD6.out (sz_fobs ns) HNN.out HZ.out (held_fobs ns (-1))).mono ?_
      rintro e w7 ⟨rfl, n7, hw7⟩
      have HD7 := Lib.hid (HD6.out.drewN n7)
      have HX7 := Lib.hid (HX6.out.drewN n7)
      rw [← hw7] at HD7 HX7
      clear hw7
      go_wp2_with fail
      refine (half_any HD7.out.x.m).mono ?_
      rintro e w8 ⟨rfl, rfl⟩
      go_wp2_with fail
      refine (half_any HX7.out.m).mono ?_
      rintro e w8 ⟨rfl, rfl⟩
      go_wp2_with fail
      refine (known_any _).mono ?_
      rintro e w9 ⟨rfl, hb⟩
      have HB := Lib.hid (HX7.out.known hb)
      clear hb
      go_wp2_with fail
      go_ret
      exact ⟨rfl, HB.out⟩
end Go.Proofs.Ytpgnadngiaibeaa
