/- The contract of gc's same: a memory and the document's memory beside it hold the same. Conditions: they lie as Twin says. -/
import Derived.Test.YtjdhjehnofediaaMemTwin
import Derived.Test.YtjdhjehnofediaaGcX
namespace Go.Proofs.Ytjdhjehnofediaa
open Go Go.RowKit
section
variable {w : World} {b rb W h : Nat} {R : Nat → Value} {now old : List Ob} {v1 v2 : Value} {P1 P2 : List (RO × Value)}
theorem objA_lt {k : Nat} (z : WF W h now old) : objA h W now k ≤ 9223372036854775807 := by
  have h1 : start now k ≤ used now := by
    by_cases q : k ≤ now.length
    · exact start_le_used q
    · unfold start; rw [List.take_of_length_le (by omega)]; exact Nat.le_refl _
  have := z.un
  have := z.w1
  unfold objA adr
  split <;> omega
set_option maxRecDepth 100000 in
set_option maxHeartbeats 8000000 in
theorem gsame_any (t : Twin w b rb W h R now old v1 P1 v2 P2) : Calls Try.prog 22 #[.pointer (some ⟨b, 0, none⟩), .pointer (some ⟨rb, 0, none⟩)] w fun e w' => e = .returned (.bool true) ∧ Below w.heap.size w w' := by
  have HT := Lib.hid t
  obtain ⟨a1, c1, hv1, hc1, hc2⟩ := own_shape5 t.r.l1.row
  have hlu := P_length t.e1
  have hu65 : P1.length ≤ 65536 := Nat.le_trans (length_le_usedP P1) t.rz.u1
  rw [hlu] at hv1 hc1 hu65
  obtain ⟨N, hN⟩ : ∃ N, now.length = N := ⟨_, rfl⟩
  rw [hN] at hv1 hc1 hu65
  have HV1 := Lib.hid hv1
  have HN := Lib.hid hN
  have q1 := t.r.c1
  have HH := Lib.hid (fun n => half_any (t.m.drewN n))
  have HNX := Lib.hid (fun n => (t.drewN n).next)
  have HFR := Lib.hid (fun n => (t.drewN n).free)
  have HRN := Lib.hid (fun n => (t.drewN n).rnext)
  have HRF := Lib.hid (fun n => (t.drewN n).rfree)
  have hhh := t.z.hh
  have hz1 := t.z.un
  have hz3 := t.z.w1
  obtain ⟨U, hU⟩ : ∃ U, used now = U := ⟨_, rfl⟩
  obtain ⟨AU, hAU⟩ : ∃ AU, adr h W (U : Nat) = AU := ⟨_, rfl⟩
  obtain ⟨FU, hFU⟩ : ∃ FU : Int, (W : Int) - U = FU := ⟨_, rfl⟩
  rw [hU] at HNX HFR HRN HRF
  rw [hAU] at HNX HRN
  rw [hFU] at HFR HRF
  have n1 : ((h : Int) != (h : Int)) = false := by simp
  have n2 : (AU != AU) = false := by simp
  have n3 : (FU != FU) = false := by simp
  clear t hv1 hlu hN hhh hz1 hz3 hU hAU hFU
  go_enter Try.func22, Try.ntmps22
  go_wp2_with fail
  go_quiet ((first
    | (go_at_call 31; refine Calls.quiet_of_same (HH.out _))
    | (go_at_call 60; refine Calls.quiet_of (HNX.out _))
    | (go_at_call 35; refine Calls.quiet_of (HFR.out _))
    | (go_at_call 61; refine Calls.quiet_of (HRN.out _))
    | (go_at_call 62; refine Calls.quiet_of (HRF.out _))))
  obtain ⟨w0, hw0⟩ : ∃ w0, w.drewN nq = w0 := ⟨_, rfl⟩
  have HB0 := Lib.hid (show Below w.heap.size w w0 from by rw [← hw0]; exact Below.drewN' (Below.refl _ _) nq)
  rw [hw0]
  clear hw0 q1 n1 n2 n3 HH HNX HFR HRN HRF
  go_wp2_with fail
  go_loopw [5] (fun i wr => ∃ k : Nat, k ≤ N ∧ i = .int .i64 k ∧ Below w.heap.size w wr) (fun i _ => N - (intOf i).toNat)
  case atStart => exact ⟨0, Nat.zero_le _, rfl, HB0.out⟩
  case round =>
    obtain ⟨k, hk, rfl, hB⟩ := hrel
    have ht := HT.out.below hB
    have HTR := Lib.hid ht
    have HB := Lib.hid hB
    have c2 := ht.r.c2
    rw [HV1.out] at c2
    by_cases hlt : k < N
    · have hkn : k < now.length := by rw [HN.out]; exact hlt
      obtain ⟨o, ho⟩ : ∃ o, now[k]? = some o := ⟨_, List.getElem?_eq_getElem hkn⟩
      obtain ⟨u, hp⟩ := P_get ht.e1 ho
      obtain ⟨g, cap, hv, _, _, hj, A⟩ := ht.r.l1.at hp
      rw [HV1.out] at hv
      injection hv with e1 e2 e3
      subst e1
      clear e2 e3
      have hws := ht.r.l1.ws _ (List.mem_of_getElem? hp)
      simp only [roOf] at hws
      obtain ⟨ua, uc, rfl, hu1, hu2⟩ := own_shape5 hws
      have d0 : wr.cell? ⟨g, k * 5, none⟩ = some (.int .i64 (objA h W now k)) := A.c0
      have d1 : wr.cell? ⟨g, k * 5 + 1, none⟩ = some (.int .i64 (o.k : Int)) := A.c1
      have d2 : wr.cell? ⟨g, k * 5 + 2, none⟩ = some (.int .i64 (o.t : Int)) := A.c2
      have d3 : wr.cell? ⟨g, k * 5 + 3, none⟩ = some (.slice ua o.ws.length uc) := A.c3
      have d4 : wr.cell? ⟨g, k * 5 + 4, none⟩ = some (.int .i64 (o.to : Int)) := A.c4
      have hidx : idxAt now h W (objA h W now k) = some k := idxAt_of hkn
      have HLK := Lib.hid (fun (W1 : World) (hb : Below wr.heap.size wr W1) => look_hit (ht.below hb).m ht.z _ (objA_lt ht.z) hidx ho)
      have HLD := Lib.hid (fun (W1 : World) (hb : Below wr.heap.size wr W1) (i : Nat) (hi : i < o.ws.length) => load_hit (ht.below hb).m ht.z _ i (objA_lt ht.z) hidx ho hi)
      obtain ⟨AK, hAK⟩ : ∃ AK, objA h W now k = AK := ⟨_, rfl⟩
      rw [hAK] at d0 HLK HLD
      have hwl := start_lt now hkn
      have hoe : now[k] = o := by rw [List.getElem?_eq_getElem hkn] at ho; exact Option.some.inj ho
      rw [hoe] at hwl
      have hz65 : o.ws.length ≤ 65536 := by have := ht.z.un; have := ht.z.w1; omega
      obtain ⟨z, hz⟩ : ∃ z, o.ws.length = z := ⟨_, rfl⟩
      have HZ := Lib.hid hz
      have HWS := Lib.hid hws
      rw [hz] at d3 HLK HLD hz65 hu1
      have hgw : g < wr.heap.size := World.block_lt_of_cell? wr ⟨g, k * 5, none⟩ d0
      clear ht hB hp A hws hidx hAK hwl hoe hz
      obtain ⟨ob, hob⟩ : ∃ ob, wr.heap.size = ob := ⟨_, rfl⟩
      go_wp2_with fail
      refine (HLK.out _ ((Below.refl _ wr).alloc (Nat.le_refl _) _)).mono ?_
      rintro e w1 ⟨rfl, n1, hw1⟩
      have hb1 : Below wr.heap.size wr w1 := by rw [hw1]; exact ((Fr.of_below (O := fun _ => False) ((Below.refl _ wr).alloc (Nat.le_refl _) _)).drewN n1).below (Nat.le_refl _) (fun _ h => h.elim)
      have hblk1 : w1.heap[ob]? = some (.cells #[.int .i64 AK, .int .i64 o.k, .int .i64 o.t, .slice ua z uc, .int .i64 o.to] 90 (0, 0)) := by rw [hw1, ← hob]; exact heap_alloc_new wr _
      have f1 := blk_cell hblk1 1
      have f2 := blk_cell hblk1 2
      have f3 := blk_cell hblk1 3
      have HB1 := Lib.hid hb1
      have HBL1 := Lib.hid hblk1
      have q1 : ((o.k : Int) != (o.k : Int)) = false := by simp
      have q2 : ((o.t : Int) != (o.t : Int)) = false := by simp
      have q3 : ((z : Int) != (z : Int)) = false := by simp
      clear hw1 hb1 hblk1 d0 d1 d2 d3 d4 c2 hob
      go_wp2_with fail
      go_loopw [11] (fun i wx => ∃ i' : Nat, i' ≤ z ∧ i = .int .i64 i' ∧ Below w1.heap.size w1 wx) (fun i _ => z - (intOf i).toNat)
      case atStart => exact ⟨0, Nat.zero_le _, rfl, Below.refl _ _⟩
      case round =>
        obtain ⟨i, hi, rfl, hBx⟩ := hrel
        have hbr := HB1.out.trans (hBx.mono HB1.out.size)
        have hblk := (hBx.block ob (Array.getElem?_eq_some_iff.1 HBL1.out).1).trans HBL1.out
        have g0 := blk_cell hblk 0
        have g3 := blk_cell hblk 3
        have HBR := Lib.hid hbr
        have HBX := Lib.hid hBx
        clear f1 f2 f3 hblk hBx hbr
        by_cases hlt2 : i < z
        · have hio : i < o.ws.length := by rw [HZ.out]; exact hlt2
          obtain ⟨g2, c3, hue, hc31, hc32, hcw, _⟩ := word_at (own_below HWS.out HBR.out) hio
          rw [HZ.out] at hue hc31
          injection hue with e1 e2 e3
          subst e1 e3
          clear e2
          have HLD2 := Lib.hid (HLD.out _ HBR.out i hlt2)
          obtain ⟨x, hx⟩ : ∃ x, o.ws.getD i 0 = x := ⟨_, rfl⟩
          rw [hx] at hcw HLD2
          have qx : ((x : Int) != (x : Int)) = false := by simp
          clear hx hio
          go_wp2_with fail
          refine HLD2.out.mono ?_
          rintro e w3 ⟨rfl, n3, rfl⟩
          go_wp2_with fail
          go_roundw
          case rel => exact ⟨i + 1, hlt2, by go_num, ((Fr.of_below (O := fun _ => False) HBX.out).drewN n3).below (Nat.le_refl _) (fun _ h => h.elim)⟩
          case measure => simp [intOf]; omega
        · go_wp2_with fail
          go_roundw
          case rel => exact ⟨k + 1, hlt, by go_num, HB.out.trans (HBR.out.mono HB.out.size)⟩
          case measure => simp [intOf]; omega
    · go_wp2_with fail
      go_ret
      exact ⟨rfl, HB.out⟩
end
end Go.Proofs.Ytjdhjehnofediaa
