/- The walk of the statement MemFull: it returns true. Conditions: none. -/
import Derived.Test.YtpgnadngiaibeaaMemKnown
import Derived.Test.YtpgnadngiaibeaaAmong
namespace Go.Proofs.Ytpgnadngiaibeaa
open Go Go.RowKit
section
variable {w : World} {b W h : Nat} {R : Nat → Value} {now old : List Ob}
theorem alloc_to (m : Mem w b W h R now old) (z : WF W h now old) (k s t : Nat) (K S T A : Int) (hK : K = k) (hS : S = s) (hT : T = t) (hA : adr h W (used now) = A) (hr : rightB k s t = true) (hf : used now + s + 1 ≤ W) :
    Calls Try.prog 35 #[.pointer (some ⟨b, 0, none⟩), .int .i64 K, .int .i64 S, .int .i64 T] w fun e w' => e = .returned (.tuple #[.int .i64 A, .int .i64 0]) ∧ ∃ R', Mem w' b W h R' (now ++ [newOb k s t]) old ∧ (∀ i, Own b R' i → Own b R i ∨ w.heap.size ≤ i) ∧ Fr (Own b R) w w' := by
  subst hK hS hT hA
  exact alloc_ok m z k s t hr hf
end
theorem used_rep (q : Nat) (o : Ob) : used (List.replicate q o) = q * (1 + o.ws.length) := by
  induction q with
  | zero => simp [used]
  | succ q ih => rw [List.replicate_succ', used_append, ih, used_one, Nat.succ_mul]
/-- what holds of a memory that is the call's own -/
structure MW (w : World) (b W h : Nat) (now old : List Ob) (wr : World) (R : Nat → Value) : Prop where
  m : Mem wr b W h R now old
  z : WF W h now old
  ge : ∀ i, Own b R i → w.heap.size ≤ i
  fr : Below w.heap.size w wr
theorem MW.drewN {w : World} {b W h : Nat} {now old : List Ob} {wr : World} {R : Nat → Value} (x : MW w b W h now old wr R) (n : Nat) : MW w b W h now old (wr.drewN n) R := ⟨x.m.drewN n, x.z, x.ge, ⟨x.fr.os, x.fr.tape, x.fr.output, x.fr.size, x.fr.block⟩⟩
theorem MW.next {w : World} {b W h h' : Nat} {now old now' old' : List Ob} {wr w1 : World} {R R' : Nat → Value} (x : MW w b W h now old wr R) (m : Mem w1 b W h' R' now' old') (z : WF W h' now' old') (hs : ∀ i, Own b R' i → Own b R i ∨ wr.heap.size ≤ i) (hf : Fr (Own b R) wr w1) : MW w b W h' now' old' w1 R' :=
  ⟨m, z, fun i hi => by
    rcases hs i hi with a | a
    · exact x.ge i a
    · exact Nat.le_trans x.fr.size a, x.fr.trans (hf.below x.fr.size x.ge)⟩
theorem MW.new (w : World) {W : Nat} (h0 : 64 ≤ W) (h1 : W ≤ 65536) : MW w w.heap.size W 0 [] [] (w.alloc (newObj W)) (fun _ => .slice none 0 0) :=
  ⟨new_mem W w, wf_new h0 h1, own_nil (Nat.le_refl _), (Below.refl _ _).alloc (Nat.le_refl _) _⟩
set_option maxRecDepth 100000 in
set_option maxHeartbeats 4000000 in
theorem memFull_walk (k1 k2 : Int) (w : World) : Calls Try.prog 8 #[.int .i64 k1, .int .i64 k2] w fun e w' => e = .returned (.bool true) ∧ Below w.heap.size w w' := by
  go_enter Try.func8, Try.ntmps8
  go_wp2_with fail
  refine (among_any k1 1000 (by decide) (by decide) _).mono ?_
  rintro e w' ⟨⟨r1, hr1, rfl⟩, rfl⟩
  obtain ⟨W, hW⟩ : ∃ W : Nat, (64 : Int) + r1 = W := ⟨64 + r1, by omega⟩
  go_wp2_with fail
  refine (among_any k2 60 (by decide) (by decide) _).mono ?_
  rintro e w' ⟨⟨r2, hr2, rfl⟩, rfl⟩
  obtain ⟨n, hn⟩ : ∃ n : Nat, (1 : Int) + r2 = n := ⟨1 + r2, by omega⟩
  have hW0 : 64 ≤ W := by omega
  have hW1 : W ≤ 65536 := by omega
  have hn0 : 1 ≤ n := by omega
  have hn1 : n ≤ 60 := by omega
  go_wp2_with fail
  refine (new_raw W hW0 hW1 _).mono ?_
  rintro e w1 ⟨rfl, hw1⟩
  have M1 := Lib.hid (show MW w w.heap.size W 0 [] [] w1 (fun _ => .slice none 0 0) from by rw [hw1]; exact MW.new w hW0 hW1)
  clear hw1 hr1 hr2 hW hn
  have hr : rightB 4 n 0 = true := right_yes (by omega)
  have hl : (newOb 4 n 0).ws.length = n := newOb_len (by omega)
  have HR := Lib.hid hr
  have HL := Lib.hid hl
  clear hr hl
  go_wp2_with fail
  go_loopw [9] (fun i wr => ∃ (q : Nat) (R : Nat → Value), i = .int .i64 q ∧ q * (n + 1) ≤ W ∧ MW w w.heap.size W 0 (List.replicate q (newOb 4 n 0)) [] wr R) (fun i _ => W - (intOf i).toNat)
  case atStart => exact ⟨0, _, rfl, by omega, M1.out⟩
  case round =>
    obtain ⟨q, R, rfl, hq, hM⟩ := hrel
    have hqq : q ≤ q * (n + 1) := Nat.le_mul_of_pos_right _ (by omega)
    have hu : used (List.replicate q (newOb 4 n 0)) = q * (n + 1) := by rw [used_rep, HL.out, Nat.add_comm 1 n]
    have hqlt : (q : Int) < W := by
      have : q * 2 ≤ q * (n + 1) := Nat.mul_le_mul_left _ (by omega)
      omega
    have HM := Lib.hid hM
    by_cases hfit : q * (n + 1) + n + 1 ≤ W
    · have HA := Lib.hid (alloc_to hM.m hM.z 4 n 0 4 n 0 _ rfl rfl rfl rfl HR.out (by rw [hu]; exact hfit))
      have hq2 : (q + 1) * (n + 1) ≤ W := by rw [Nat.succ_mul]; omega
      have HQ := Lib.hid hq2
      have HU := Lib.hid hu
      have HF := Lib.hid hfit
      clear hM hu hqq hq hfit hq2
      go_wp2_with fail
      refine HA.out.mono ?_
      rintro e w2 ⟨rfl, R2, m2, hs2, hf2⟩
      have M2 := Lib.hid (HM.out.next m2 (wf_alloc HM.out.z HR.out (by rw [HU.out]; exact HF.out)) hs2 hf2)
      clear m2 hs2 hf2
      go_wp2_with fail
      go_roundw
      case rel => exact ⟨q + 1, R2, by go_num, HQ.out, by rw [List.replicate_succ']; exact M2.out⟩
      case measure => simp [intOf]; omega
    · obtain ⟨u, hu2⟩ : ∃ u, q * (n + 1) = u := ⟨_, rfl⟩
      rw [hu2] at hu hq hfit hqq
      obtain ⟨l, hl⟩ : ∃ l : Nat, (W : Int) - u = l := ⟨W - u, by omega⟩
      have hln : l ≤ n := by omega
      have hprod : (q : Int) * ((n : Int) + 1) = u := by rw [← hu2]; simp
      have hquo : wrap64 ((W : Int) / ((n : Int) + 1)) = (q : Int) := by
        have e : W / (n + 1) = q := by
          apply Nat.div_eq_of_lt_le
          · rw [hu2]; omega
          · rw [Nat.succ_mul, hu2]; omega
        have e2 : (W : Int) / ((n : Int) + 1) = ((W / (n + 1) : Nat) : Int) := by simp
        rw [e2, e]
        unfold wrap64
        omega
      have HU := Lib.hid hu
      obtain ⟨N0, hN0⟩ : ∃ N0, List.replicate q (newOb 4 n 0) = N0 := ⟨_, rfl⟩
      rw [hN0] at hM HM HU
      have HA := Lib.hid (alloc_full hM.m hM.z 4 n 0 HR.out (by rw [HU.out]; omega))
      have hfr := free_any hM.m hM.z.sizes
      clear hM hu2 hu hfr hN0
      by_cases hl0 : l = 0
      · subst hl0
        have hl1 : (W : Int) - u = 0 := by omega
        clear hl
        have HFR : ∀ k, Calls Try.prog 28 #[.pointer (some ⟨w.heap.size, 0, none⟩)] (wr.drewN k) fun e w' => e = .returned (.int .i64 0) ∧ ∃ n, w' = (wr.drewN k).drewN n := fun k => by
          have := free_any (HM.out.m.drewN k) HM.out.z.sizes
          rw [rows_cells, half_now, flat_length, HU.out, hl1] at this
          exact this
        have HFR' := Lib.hid HFR
        clear HFR
        go_wp2_with fail
        refine HA.out.mono ?_
        rintro e w2 ⟨rfl, k1, rfl⟩
        go_wp2_with fail
        refine (HFR'.out _).mono ?_
        rintro e w3 ⟨rfl, k2, rfl⟩
        go_wp2_with fail
        refine (alloc_full (HM.out.drewN (k1 + k2)).m HM.out.z 5 0 0 (by decide) (by rw [HU.out]; omega)).mono ?_
        rintro e w4 ⟨rfl, k3, rfl⟩
        go_wp2_with fail
        refine (known_any _).mono ?_
        rintro e w5 ⟨rfl, hb⟩
        have HB := Lib.hid (HM.out.fr.trans (show Below w.heap.size wr w5 from ⟨hb.os, hb.tape, hb.output, hb.size, fun i hi => hb.block i (Nat.lt_of_lt_of_le hi HM.out.fr.size)⟩))
        clear hb
        go_wp2_with fail
        go_ret
        exact ⟨rfl, HB.out⟩
      · obtain ⟨l', rfl⟩ : ∃ l', l = l' + 1 := ⟨l - 1, by omega⟩
        have hlm : ((l' + 1 : Nat) : Int) - 1 = (l' : Int) := by omega
        have hlz : (((l' + 1 : Nat) : Int) == 0) = false := beqF (by omega)
        obtain ⟨L, hL⟩ : ∃ L : Nat, l' + 1 = L := ⟨_, rfl⟩
        rw [hL] at hlm hlz hl
        have h5 : rightB 5 l' 0 = true := right_yes (by omega)
        have HFR : ∀ k, Calls Try.prog 28 #[.pointer (some ⟨w.heap.size, 0, none⟩)] (wr.drewN k) fun e w' => e = .returned (.int .i64 L) ∧ ∃ n, w' = (wr.drewN k).drewN n := fun k => by
          have := free_any (HM.out.m.drewN k) HM.out.z.sizes
          rw [rows_cells, half_now, flat_length, HU.out, hl] at this
          exact this
        have HFR' := Lib.hid HFR
        have hf1 : rightB 5 L 0 = true := right_yes (by omega)
        have HG1 := Lib.hid (fun k => alloc_full (HM.out.drewN k).m HM.out.z 5 L 0 hf1 (by rw [HU.out]; omega))
        have HG2 := Lib.hid (fun k => alloc_to (HM.out.drewN k).m HM.out.z 5 l' 0 5 l' 0 _ rfl rfl rfl rfl h5 (by rw [HU.out]; omega))
        have HZ := Lib.hid (wf_alloc HM.out.z h5 (by rw [HU.out]; omega))
        have HUU := Lib.hid (show used (N0 ++ [newOb 5 l' 0]) = W by rw [used_append, used_one, newOb_len (Nat.zero_le _), HU.out]; omega)
        clear HFR h5 hf1 hL
        go_wp2_with fail
        refine HA.out.mono ?_
        rintro e w2 ⟨rfl, k1, rfl⟩
        go_wp2_with fail
        refine (HFR'.out _).mono ?_
        rintro e w3 ⟨rfl, k2, rfl⟩
        go_wp2_with fail
        refine (HG1.out (k1 + k2)).mono ?_
        rintro e w4 ⟨rfl, k3, rfl⟩
        go_wp2_with fail
        refine (HG2.out (k1 + k2 + k3)).mono ?_
        rintro e w5 ⟨rfl, R5, m5, hs5, hf5⟩
        have M5 := Lib.hid ((HM.out.drewN (k1 + k2 + k3)).next m5 HZ.out hs5 hf5)
        clear m5 hs5 hf5
        go_wp2_with fail
        refine (alloc_full M5.out.m M5.out.z 5 0 0 (by decide) (by rw [HUU.out]; omega)).mono ?_
        rintro e w6 ⟨rfl, k6, rfl⟩
        go_wp2_with fail
        have hfz := free_any (M5.out.drewN k6).m M5.out.z.sizes
        rw [rows_cells, half_now, flat_length, HUU.out, Int.sub_self] at hfz
        refine hfz.mono ?_
        rintro e w7 ⟨rfl, k7, rfl⟩
        go_wp2_with fail
        refine (known_any _).mono ?_
        rintro e w8 ⟨rfl, hb⟩
        have HB := Lib.hid (M5.out.fr.trans (show Below w.heap.size w5 w8 from ⟨hb.os, hb.tape, hb.output, hb.size, fun i hi => hb.block i (Nat.lt_of_lt_of_le hi M5.out.fr.size)⟩))
        clear hb
        go_wp2_with fail
        go_ret
        exact ⟨rfl, HB.out⟩
end Go.Proofs.Ytpgnadngiaibeaa
