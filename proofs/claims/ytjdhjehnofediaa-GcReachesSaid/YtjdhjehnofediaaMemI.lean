/- The contract of the objects told one by one. Conditions: the memory lies as Mem says, and stays so in each round. -/
import Derived.Test.YtjdhjehnofediaaMemE
namespace Go.Proofs.Ytjdhjehnofediaa
open Go Go.RowKit Go.Shelf
attribute [local go_sem] Oper.semAt_some
/-- the address of the object of a number -/
def objA (h W : Nat) (now : List Ob) (k : Nat) : Int := adr h W (start now k : Nat)
def aOf (h W : Nat) (now : List Ob) (k : Nat) : Int := if k < now.length then objA h W now k else adr h W (-1)
/-- the address that is looked behind for the object of a number -/
def behind (h W : Nat) (now : List Ob) (k : Nat) : Int := match k with | 0 => 0 | k + 1 => objA h W now k
theorem start_le_used {now : List Ob} {k : Nat} (hk : k ≤ now.length) : start now k ≤ used now := by
  have := start_mono now hk (Nat.le_refl _)
  rw [start_len] at this
  omega
section
variable {w : World} {b W h : Nat} {R : Nat → Value} {now old : List Ob}
theorem after_k (m : Mem w b W h R now old) (z : WF W h now old) (k : Nat) (hk : k ≤ now.length) : Calls Try.prog 66 #[.pointer (some ⟨b, 0, none⟩), .int .i64 (behind h W now k)] w fun e w' => e = .returned (.tuple #[.int .i64 (aOf h W now k), .bool (decide (k < now.length))]) ∧ ∃ n, w' = w.drewN n := by
  have hw := z.w1
  have hu := z.un
  have hA0 : 0 ≤ adr h W 0 ∧ adr h W 0 ≤ 65537 := by unfold adr; split <;> omega
  obtain ⟨f, hf, hb0, hb1, hfs⟩ : ∃ f : Nat, max (adr h W 0) (behind h W now k + 1) - adr h W 0 = f ∧ 0 ≤ behind h W now k ∧ behind h W now k ≤ 1000000 ∧ (∀ j, j < now.length → (f ≤ start now j ↔ k ≤ j)) := by
    cases k with
    | zero =>
      refine ⟨0, ?_, Int.le_refl _, (by decide : (0 : Int) ≤ 1000000), fun j _ => by omega⟩
      show max (adr h W 0) (0 + 1) - adr h W 0 = 0
      have : 1 ≤ adr h W 0 := by unfold adr; split <;> omega
      omega
    | succ k =>
      have hsk := start_le_used (now := now) (k := k) (by omega)
      have hob : behind h W now (k + 1) = adr h W 0 + start now k := by show adr h W (start now k : Nat) = _; unfold adr; omega
      refine ⟨start now k + 1, by rw [hob]; omega, by rw [hob]; omega, by rw [hob]; omega, fun j hj => ⟨fun hle => ?_, fun hle => ?_⟩⟩
      · by_cases q : j ≤ k
        · have := start_mono now q (by omega); omega
        · omega
      · have := start_mono now (i := k) (j := j) (by omega) (by omega); omega
  refine (after_any m z.sizes _ f hb0 hb1 hf).mono ?_
  rintro e w' ⟨hA, hd⟩
  refine ⟨?_, hd⟩
  rw [rows_marks, half_now] at hA
  rcases hA with ⟨c, h1, _, h2, h3, rfl⟩ | ⟨h1, rfl⟩
  · obtain ⟨j, hj, hs⟩ := (bitAt_marksL _ _).1 h3
    have hkj := (hfs j hj).1 (by omega)
    have hjk : j = k := by
      by_cases q : k = j
      · exact q.symm
      · exfalso
        have hlt : k < j := by omega
        have hm := start_mono now (i := k) (j := j) (by omega) (by omega)
        have := h2 (start now k) ((hfs k (by omega)).2 (Nat.le_refl _)) (by omega)
        rw [(bitAt_marksL _ _).2 ⟨k, by omega, rfl⟩] at this
        cases this
    subst hjk
    unfold aOf objA
    rw [if_pos hj, decide_eq_true hj, hs]
  · have hkn : ¬ k < now.length := fun q => by
      have := h1 (start now k) ((hfs k q).2 (Nat.le_refl _))
      rw [(bitAt_marksL _ _).2 ⟨k, q, rfl⟩] at this
      cases this
    unfold aOf
    rw [if_neg hkn, decide_eq_false hkn]
end
/-- what a round keeps: the box, and the memory as it was -/
def KeepO (Bs b W h : Nat) (R : Nat → Value) (now old : List Ob) (A B : World) : Prop := Boxed A Bs 26 (.pointer (some ⟨b, 0, none⟩)) → Mem A b W h R now old → Boxed B Bs 26 (.pointer (some ⟨b, 0, none⟩)) ∧ Mem B b W h R now old
theorem keepO_t {Bs b W h : Nat} {R : Nat → Value} {now old : List Ob} {A B C : World} (p : KeepO Bs b W h R now old A B) (q : KeepO Bs b W h R now old B C) : KeepO Bs b W h R now old A C := fun x y => q (p x y).1 (p x y).2
theorem MemV.isCells {w : World} {b W h : Nat} {R : Nat → Value} {L : Nat → List Nat} (m : MemV w b W h R L) {i : Nat} (hi : Own b R i) {o : Obj} (ho : w.heap[i]? = some o) : o.isCells = true := by
  rcases hi with rfl | ⟨r, hr, hg⟩
  · have hc := m.c0
    unfold World.cell? at hc
    simp only [] at hc
    rw [ho] at hc
    cases o <;> first | rfl | cases hc
  · rcases (m.own r hr).2 with ⟨hv, _⟩ | ⟨g, cap, cur, hv, _, hk, _⟩
    · rw [hv] at hg; cases hg
    · rw [hv] at hg
      obtain rfl : g = i := by simpa [Value.ownBlock] using hg
      rw [hk] at ho
      obtain rfl := Option.some.inj ho
      rfl
theorem keepO_b {Bs b W h : Nat} {R : Nat → Value} {now old : List Ob} {w : World} (hb : Bs < w.heap.size) (W1 : World) (l : Nat) (o o' : Obj) (hl : w.heap.size ≤ l) (ho : W1.heap[l]? = some o) (hc : o.isCells = false) (_ : o.isWalk = false) : KeepO Bs b W h R now old W1 (W1.putObj l o') := fun x y =>
  ⟨x.kept (grownBy_putObj' W1 l o') (fun e => by cases e; omega), y.kept ((Fr.refl (· = l) W1).grown (grownBy_putObj' W1 l o') (fun k hk => .inl (Option.some.inj hk).symm)) (fun i hi e => by
    subst e
    rw [MemV.isCells y hi ho] at hc
    cases hc)⟩
def meas (a ok : Value) : Nat := match ok with | .bool true => 200001 - (intOf a).toNat | _ => 0
theorem objA_bd {W h : Nat} {now old : List Ob} (z : WF W h now old) {k : Nat} (hk : k ≤ now.length) : 1 ≤ objA h W now k ∧ objA h W now k ≤ 200000 := by
  have := start_le_used hk
  have := z.un
  have := z.w1
  unfold objA adr
  split <;> omega
theorem meas_lt {W h : Nat} {now old : List Ob} (z : WF W h now old) {k N : Nat} (hN : now.length = N) (hk : k < N) : meas (.int .i64 (aOf h W now (k + 1))) (.bool (decide (k + 1 < N))) < meas (.int .i64 (aOf h W now k)) (.bool true) := by
  subst hN
  obtain ⟨h1, h2⟩ := objA_bd z (Nat.le_of_lt hk)
  have e : meas (.int .i64 (aOf h W now k)) (.bool true) = 200001 - (objA h W now k).toNat := by
    unfold aOf; rw [if_pos hk]; rfl
  rw [e]
  by_cases q : k + 1 < now.length
  · rw [decide_eq_true q]
    obtain ⟨h3, h4⟩ := objA_bd z (Nat.le_of_lt q)
    have e2 : meas (.int .i64 (aOf h W now (k + 1))) (.bool true) = 200001 - (objA h W now (k + 1)).toNat := by
      unfold aOf; rw [if_pos q]; rfl
    rw [e2]
    have hm := start_mono now (i := k) (j := k + 1) (by omega) (by omega)
    have : objA h W now k < objA h W now (k + 1) := by unfold objA adr; omega
    omega
  · rw [decide_eq_false q]
    show 0 < _
    omega
theorem behind_succ {h W : Nat} {now : List Ob} {k : Nat} (hk : k < now.length) : behind h W now (k + 1) = aOf h W now k := by
  unfold aOf; rw [if_pos hk]; rfl
set_option maxRecDepth 100000 in
set_option maxHeartbeats 2000000 in
theorem objects1_in (n : Nat) (hn : 1 ≤ n) (l Bs b W h : Nat) (R : Nat → Value) (now old : List Ob) (z : WF W h now old) (J Jx : List Nat → World → Prop)
    (hJ : ∀ pre (W1 : World) k, J pre W1 → J pre (W1.drewN k))
    (hY : ∀ pre x W1, J pre W1 → pre.length < now.length → YieldAt Fence.wide (n - 1) Try.prog l #[.int .i64 (objA h W now x)] W1 fun e W' =>
      (e = .returned (.bool true) ∧ J (pre ++ [x]) W' ∧ KeepO Bs b W h R now old W1 W') ∨ (e = .returned (.bool false) ∧ Jx (pre ++ [x]) W'))
    (W0 : World) (hBs : Boxed W0 Bs 26 (.pointer (some ⟨b, 0, none⟩))) (hM : Mem W0 b W h R now old) (h0 : J [] W0) :
    CallsIn Fence.wide n Try.prog 65 #[.func (.yield l) #[] #[], .pointer (some ⟨Bs, 0, none⟩)] W0 fun e W' => (∃ v, e = .returned v) ∧
      ((∃ ys, ys = List.range now.length ∧ J ys W') ∨ (∃ pre, (∃ k, k ≤ now.length ∧ pre = List.range k) ∧ Jx pre W')) := by
  refine callsIn_of_wp Try.func65 rfl trivial ?_ rfl
  simp only [Try.ntmps65, List.size_toArray, List.length_cons, List.length_nil, Nat.reduceAdd, Nat.reduceSub, Array.replicate_succ, Array.replicate_zero, List.push_toArray, List.append_toArray, List.nil_append, List.cons_append]
  have hcx0 := hBs.cell
  have HJ := Lib.hid hJ
  have HAF := Lib.hid (fun (W1 : World) (hm : Mem W1 b W h R now old) k (hk : k ≤ now.length) => after_k hm z k hk)
  have HM0 := Lib.hid hM
  have HB0 := Lib.hid hBs
  have HZ0 := Lib.hid h0
  have HY := Lib.hid hY
  obtain ⟨N, hN⟩ : ∃ N, now.length = N := ⟨_, rfl⟩
  rw [hN] at HAF HY ⊢
  have HN := Lib.hid hN
  clear hJ hM h0 hY hN
  gi_wp2_with fail
  refine ⟨trivial, ?_⟩
  refine (callsIn_wide.2 (show Calls Try.prog 66 #[.pointer (some ⟨b, 0, none⟩), .int .i64 0] W0 _ from HAF.out W0 HM0.out 0 (Nat.zero_le _))).mono ?_
  rintro e w1 ⟨rfl, n1, hw1⟩
  have HS1 : Hid (J (List.range 0) w1 ∧ Boxed w1 Bs 26 (.pointer (some ⟨b, 0, none⟩)) ∧ Mem w1 b W h R now old) := by
    rw [hw1]; exact ⟨HJ.out _ _ _ HZ0.out, HB0.out, HM0.out.drewN n1⟩
  clear hw1 HZ0 HB0 HM0 hcx0 hBs
  gi_wp2_with fail
  gi_loopw [3, 4] (fun a ok wr => ∃ k : Nat, k ≤ N ∧ a = .int .i64 (aOf h W now k) ∧ ok = .bool (decide (k < N)) ∧ J (List.range k) wr ∧ Boxed wr Bs 26 (.pointer (some ⟨b, 0, none⟩)) ∧ Mem wr b W h R now old)
    (fun a ok _ => meas a ok)
  case atStart => exact ⟨0, Nat.zero_le _, rfl, rfl, HS1.out⟩
  case round =>
    obtain ⟨k, hk, rfl, rfl, hJs, hBx, hMm⟩ := hrel
    clear HS1
    by_cases hlt : k < N
    · obtain ⟨fn, tmps, assign, body, hy, hR⟩ := HY.out _ k wr hJs (by rw [List.length_range]; exact hlt)
      have hak : aOf h W now k = objA h W now k := by unfold aOf; rw [if_pos (by rw [HN.out]; exact hlt)]
      have hd : decide (k < N) = true := decide_eq_true hlt
      have HME := Lib.hid (meas_lt z HN.out hlt)
      have HR := Lib.hid hR
      have HB := Lib.hid hBx
      have HMM := Lib.hid hMm
      have HLT := Lib.hid hlt
      have HAK := Lib.hid hak
      rw [hak, hd]
      clear hJs hBx hMm hR hlt hd hak
      gi_wp2_with fail
      refine HR.out.mono ?_
      rintro e W3 (⟨rfl, hJ3, hk3⟩ | ⟨rfl, hJx3⟩)
      · obtain ⟨hb3, hm3⟩ := hk3 HB.out HMM.out
        have hcx := hb3.cell
        have HB3 := Lib.hid hb3
        have HM3 := Lib.hid hm3
        have HJ3 := Lib.hid (show J (List.range (k + 1)) W3 from by rw [List.range_succ]; exact hJ3)
        clear hb3 hm3 hJ3 hk3
        gi_wp2_with fail
        refine ⟨trivial, ?_⟩
        refine (callsIn_wide.2 (show Calls Try.prog 66 #[.pointer (some ⟨b, 0, none⟩), .int .i64 (objA h W now k)] W3 _ from HAF.out W3 HM3.out (k + 1) HLT.out)).mono ?_
        rintro e w4 ⟨rfl, n4, hw4⟩
        have HS4 : Hid (J (List.range (k + 1)) w4 ∧ Boxed w4 Bs 26 (.pointer (some ⟨b, 0, none⟩)) ∧ Mem w4 b W h R now old) := by
          rw [hw4]; exact ⟨HJ.out _ _ _ HJ3.out, HB3.out, HM3.out.drewN n4⟩
        clear hw4 hcx
        gi_wp2_with fail
        go_roundw
        case rel => exact ⟨k + 1, HLT.out, rfl, rfl, HS4.out⟩
        case measure => have := HME.out; rw [HAK.out] at this; exact this
      · have HX := Lib.hid hJx3
        clear hJx3
        gi_wp2
        refine bodyPost_ret (results_none rfl _ _ _) rfl ?_
        exact ⟨⟨_, rfl⟩, .inr ⟨_, ⟨k + 1, HLT.out, by rw [List.range_succ]⟩, HX.out⟩⟩
    · have hd : decide (k < N) = false := decide_eq_false hlt
      have hkN : N = k := by omega
      rw [hd]
      have HJs := Lib.hid hJs
      clear hJs hBx hMm
      gi_wp2
      go_end0
      exact ⟨⟨_, rfl⟩, .inl ⟨_, by rw [hkN], HJs.out⟩⟩
/-- the contract, as the law of a range over a function asks for it -/
theorem objects_stops (n : Nat) (hn : 1 ≤ n) (Bs b W h : Nat) (R : Nat → Value) (now old : List Ob) (z : WF W h now old) (w : World) (hc : Boxed w Bs 26 (.pointer (some ⟨b, 0, none⟩))) (hM : Mem w b W h R now old) :
    SeqStopsK Fence.wide n Try.prog 65 #[.pointer (some ⟨Bs, 0, none⟩)] (fun x : Nat => #[Value.int .i64 (objA h W now x)]) (KeepO Bs b W h R now old) (fun ys => ys = List.range now.length) (fun pre => ∃ k, k ≤ now.length ∧ pre = List.range k) now.length w := fun l J Jx W1 hW hJ _ hY h0 =>
  objects1_in n hn l Bs b W h R now old z J Jx (fun pre W2 k hJ2 => hJ pre W2 _ none hJ2 ⟨rfl, rfl, rfl, Nat.le_refl _, fun _ _ _ => rfl⟩ (fun r e => by cases e)) hY W1 ((hW.block Bs hc.lt).trans hc) (hM.below hW) h0
end Go.Proofs.Ytjdhjehnofediaa
