/- step, call by call. Conditions: the memories lie as Twin says. -/
import Derived.Test.YtpgnadngiaibeaaMemStep
namespace Go.Proofs.Ytpgnadngiaibeaa
open Go Go.RowKit
section
variable {w : World} {b rb W h : Nat} {R : Nat → Value} {now old : List Ob} {v1 v2 : Value} {P1 P2 : List (RO × Value)}
theorem box_stays {w2 : World} {o : Obj} {O : Nat → Prop} (hf : Fr O (w.alloc o) w2) (hO : ∀ i, O i → i < w.heap.size) : w2.heap[w.heap.size]? = some o := (hf.block _ (by simp) (fun q => Nat.lt_irrefl _ (hO _ q))).trans (heap_alloc_new w o)
theorem alloc_below (w : World) (o : Obj) : Below w.heap.size w (w.alloc o) := (Below.refl _ w).alloc (Nat.le_refl _) o
theorem below_drewN {w1 : World} (hb : Below w.heap.size w w1) (n : Nat) : Below w.heap.size w (w1.drewN n) := ((Fr.of_below (O := fun _ => False) hb).drewN n).below (Nat.le_refl _) (fun _ h => h.elim)
/-- what step promises of a kind -/
def StepOf (kind : Int) (w : World) (b rb W : Nat) (O : Nat → Prop) : Prop := ∀ A B C X : Int, A ≤ 9223372036854775807 → 0 ≤ X → X < 18446744073709551616 → Calls Try.prog 23 #[.pointer (some ⟨b, 0, none⟩), .pointer (some ⟨rb, 0, none⟩), .agg #[.int .i64 kind, .int .i64 A, .int .i64 B, .int .i64 C, .int .u64 X]] w fun e w' => e = .returned (.bool true) ∧ TS w O w' b rb W
set_option maxRecDepth 100000 in
set_option maxHeartbeats 8000000 in
theorem step_alloc (t : Twin w b rb W h R now old v1 P1 v2 P2) : StepOf 1 w b rb W (OwnT b rb R v1 P1 v2 P2) := by
  intro A B C X _ _ _
  have HT := Lib.hid t
  clear t
  by_cases hr : rightB A B C = true
  · obtain ⟨k0, k1, s0, s1, u0, u1⟩ := right_bd hr
    obtain ⟨k, rfl⟩ := Int.eq_ofNat_of_zero_le (show 0 ≤ A by omega)
    obtain ⟨s, rfl⟩ := Int.eq_ofNat_of_zero_le (show 0 ≤ B by omega)
    obtain ⟨u, rfl⟩ := Int.eq_ofNat_of_zero_le (show 0 ≤ C by omega)
    clear k0 k1 s0 s1 u0 u1
    by_cases hf : used now + s + 1 ≤ W
    · obtain ⟨AD, hAD⟩ : ∃ AD, adr h W (used now : Nat) = AD := ⟨_, rfl⟩
      have H1 := Lib.hid (fun W1 hb => alloc_ok (k := k) (s := s) (t := u) (HT.out.below (w1 := W1) hb).m HT.out.z hr hf)
      rw [hAD] at H1
      have H2 := Lib.hid (fun W1 (m : RM W1 rb W h v1 P1 v2 P2) => ralloc_ok m HT.out.rz k s u hr (by rw [P_used HT.out.e1]; exact hf))
      rw [P_used HT.out.e1, hAD] at H2
      have HR := Lib.hid hr
      have HF := Lib.hid hf
      have qa : (AD == AD) = true := by simp
      clear hr hf
      go_enter Try.func23, Try.ntmps23
      go_wp2_with fail
      refine (H1.out _ (alloc_below w _)).mono ?_
      rintro e w2 ⟨rfl, ms⟩
      have hblk : w2.heap[w.heap.size]? = some (.cells #[.int .i64 1, .int .i64 k, .int .i64 s, .int .i64 u, .int .u64 X] 42 (0, 0)) := by
        obtain ⟨_, _, _, hf⟩ := ms
        exact box_stays hf (fun i hi => HT.out.own_lt i (.inl hi))
      have f1 : w2.cell? ⟨w.heap.size, 1, none⟩ = some (.int .i64 k) := blk_cell hblk 1
      have f2 : w2.cell? ⟨w.heap.size, 2, none⟩ = some (.int .i64 s) := blk_cell hblk 2
      have f3 : w2.cell? ⟨w.heap.size, 3, none⟩ = some (.int .i64 u) := blk_cell hblk 3
      have hr2 : RM w2 rb W h v1 P1 v2 P2 := by
        obtain ⟨_, _, _, hf⟩ := ms
        exact (HT.out.below (alloc_below w _)).r.kept hf (fun i hi hb => HT.out.ap i hb hi)
      have HM := Lib.hid ms
      have HR2 := Lib.hid hr2
      clear hblk hr2 ms
      go_wp2_with fail
      refine (H2.out _ HR2.out).mono ?_
      rintro e w3 ⟨rfl, v', x, r', g', f'⟩
      rw [← hAD, ← P_used HT.out.e1] at r' g'
      have HS := Lib.hid (((HT.out.below (alloc_below w _)).alloc HR.out HF.out HM.out r' g' f').pre (alloc_below w _))
      clear r' g' f'
      go_wp2_with fail
      go_ret
      exact ⟨rfl, HS.out⟩
    · have hr1 := fun W1 (hb : Below w.heap.size w W1) => alloc_full (HT.out.below hb).m HT.out.z k s u hr (by omega)
      have hr2 := fun W1 (hb : Below w.heap.size w W1) => ralloc_full (HT.out.below hb).r HT.out.rz k s u hr (by rw [P_used HT.out.e1]; omega)
      have H1 := Lib.hid hr1
      have H2 := Lib.hid hr2
      clear hr hf hr1 hr2
      go_enter Try.func23, Try.ntmps23
      go_wp2_with fail
      refine (H1.out _ (alloc_below w _)).mono ?_
      rintro e w2 ⟨rfl, n2, rfl⟩
      go_wp2_with fail
      refine (H2.out _ (below_drewN (alloc_below w _) n2)).mono ?_
      rintro e w3 ⟨rfl, n3, rfl⟩
      go_wp2_with fail
      go_ret
      exact ⟨rfl, (TS.of HT.out).below (below_drewN (alloc_below w _) (n2 + n3))⟩
  · have hr0 : rightB A B C = false := by simpa using hr
    have HR := Lib.hid hr0
    clear hr hr0
    go_enter Try.func23, Try.ntmps23
    go_wp2_with fail
    refine (alloc_head A B C HR.out _).mono ?_
    rintro e w2 ⟨rfl, rfl⟩
    go_wp2_with fail
    refine (ralloc_head A B C HR.out _).mono ?_
    rintro e w3 ⟨rfl, rfl⟩
    go_wp2_with fail
    go_ret
    exact ⟨rfl, (TS.of HT.out).below (alloc_below w _)⟩
set_option maxRecDepth 100000 in
set_option maxHeartbeats 8000000 in
theorem step_look (t : Twin w b rb W h R now old v1 P1 v2 P2) : StepOf 2 w b rb W (OwnT b rb R v1 P1 v2 P2) := by
  intro A B C X hA _ _
  have HT := Lib.hid t
  clear t
  cases hi : idxAt now h W A with
  | none =>
    have hr1 := fun W1 (hb : Below w.heap.size w W1) => look_miss (HT.out.below hb).m HT.out.z A hA hi
    have hr2 := fun W1 (hb : Below w.heap.size w W1) => rlook_miss (HT.out.below hb).r HT.out.rz A (by rw [P_idx HT.out.e1]; exact hi)
    have H1 := Lib.hid hr1
    have H2 := Lib.hid hr2
    clear hi hr1 hr2
    go_enter Try.func23, Try.ntmps23
    go_wp2_with fail
    refine (H1.out _ (alloc_below w _)).mono ?_
    rintro e w2 ⟨rfl, n2, rfl⟩
    go_wp2_with fail
    refine (H2.out _ (below_drewN (alloc_below w _) n2)).mono ?_
    rintro e w3 ⟨rfl, n3, rfl⟩
    go_wp2_with fail
    go_ret
    exact ⟨rfl, (TS.of HT.out).below (below_drewN (alloc_below w _) (n2 + n3))⟩
  | some j =>
    have ho := List.getElem?_eq_getElem (idxAt_some hi).1
    obtain ⟨o, hoe⟩ : ∃ o, now[j]'(idxAt_some hi).1 = o := ⟨_, rfl⟩
    rw [hoe] at ho
    obtain ⟨u, hp⟩ := P_get HT.out.e1 ho
    have hr1 := fun W1 (hb : Below w.heap.size w W1) => look_hit (HT.out.below hb).m HT.out.z A hA hi ho
    have hr2 := fun W1 (hb : Below w.heap.size w W1) => rlook_hit (HT.out.below hb).r HT.out.rz A (by rw [P_idx HT.out.e1]; exact hi) hp
    simp only [roOf] at hr2
    have H1 := Lib.hid hr1
    have H2 := Lib.hid hr2
    have q1 : ((o.k : Int) == (o.k : Int)) = true := by simp
    have q2 : ((o.ws.length : Int) == (o.ws.length : Int)) = true := by simp
    have q3 : ((o.t : Int) == (o.t : Int)) = true := by simp
    clear hi hr1 hr2 ho hoe hp
    go_enter Try.func23, Try.ntmps23
    go_wp2_with fail
    refine (H1.out _ (alloc_below w _)).mono ?_
    rintro e w2 ⟨rfl, n2, rfl⟩
    go_wp2_with fail
    refine (H2.out _ (below_drewN (alloc_below w _) n2)).mono ?_
    rintro e w3 ⟨rfl, n3, rfl⟩
    go_wp2_with fail
    go_ret
    exact ⟨rfl, (TS.of HT.out).below (below_drewN (alloc_below w _) (n2 + n3))⟩
set_option maxRecDepth 100000 in
set_option maxHeartbeats 8000000 in
theorem step_load (t : Twin w b rb W h R now old v1 P1 v2 P2) : StepOf 3 w b rb W (OwnT b rb R v1 P1 v2 P2) := by
  intro A B C X hA _ _
  have HT := Lib.hid t
  clear t
  cases hi : idxAt now h W A with
  | none =>
    have hr1 := fun W1 (hb : Below w.heap.size w W1) => load_err (b := b) (w := W1) A B (field_miss (HT.out.below hb).m HT.out.z A B hA hi)
    have hr2 := fun W1 (hb : Below w.heap.size w W1) => rload_miss (HT.out.below hb).r HT.out.rz A B (by rw [P_idx HT.out.e1]; exact hi)
    have H1 := Lib.hid hr1
    have H2 := Lib.hid hr2
    clear hi hr1 hr2
    go_enter Try.func23, Try.ntmps23
    go_wp2_with fail
    refine (H1.out _ (alloc_below w _)).mono ?_
    rintro e w2 ⟨rfl, n2, rfl⟩
    go_wp2_with fail
    refine (H2.out _ (below_drewN (alloc_below w _) n2)).mono ?_
    rintro e w3 ⟨rfl, n3, rfl⟩
    go_wp2_with fail
    go_ret
    exact ⟨rfl, (TS.of HT.out).below (below_drewN (alloc_below w _) (n2 + n3))⟩
  | some j =>
    have ho := List.getElem?_eq_getElem (idxAt_some hi).1
    obtain ⟨o, hoe⟩ : ∃ o, now[j]'(idxAt_some hi).1 = o := ⟨_, rfl⟩
    rw [hoe] at ho
    obtain ⟨u, hp⟩ := P_get HT.out.e1 ho
    by_cases hbad : B < 0 ∨ (o.ws.length : Int) ≤ B
    · have hr1 := fun W1 (hb : Below w.heap.size w W1) => load_err (b := b) (w := W1) A B (field_bad (HT.out.below hb).m HT.out.z A B hA hi ho hbad)
      have hr2 := fun W1 (hb : Below w.heap.size w W1) => rload_bad (HT.out.below hb).r HT.out.rz A B (by rw [P_idx HT.out.e1]; exact hi) hp hbad
      have H1 := Lib.hid hr1
      have H2 := Lib.hid hr2
      clear hi hr1 hr2 ho hoe hp hbad
      go_enter Try.func23, Try.ntmps23
      go_wp2_with fail
      refine (H1.out _ (alloc_below w _)).mono ?_
      rintro e w2 ⟨rfl, n2, rfl⟩
      go_wp2_with fail
      refine (H2.out _ (below_drewN (alloc_below w _) n2)).mono ?_
      rintro e w3 ⟨rfl, n3, rfl⟩
      go_wp2_with fail
      go_ret
      exact ⟨rfl, (TS.of HT.out).below (below_drewN (alloc_below w _) (n2 + n3))⟩
    · obtain ⟨i, rfl⟩ := Int.eq_ofNat_of_zero_le (show 0 ≤ B by omega)
      have hlt : i < o.ws.length := by omega
      have hr1 := fun W1 (hb : Below w.heap.size w W1) => load_hit (HT.out.below hb).m HT.out.z A i hA hi ho hlt
      have hr2 := fun W1 (hb : Below w.heap.size w W1) => rload_hit (HT.out.below hb).r HT.out.rz A i (by rw [P_idx HT.out.e1]; exact hi) hp hlt
      simp only [roOf] at hr2
      have H1 := Lib.hid hr1
      have H2 := Lib.hid hr2
      have q1 : ((o.ws.getD i 0 : Int) == (o.ws.getD i 0 : Int)) = true := by simp
      clear hi hr1 hr2 ho hoe hp hbad hlt
      go_enter Try.func23, Try.ntmps23
      go_wp2_with fail
      refine (H1.out _ (alloc_below w _)).mono ?_
      rintro e w2 ⟨rfl, n2, rfl⟩
      go_wp2_with fail
      refine (H2.out _ (below_drewN (alloc_below w _) n2)).mono ?_
      rintro e w3 ⟨rfl, n3, rfl⟩
      go_wp2_with fail
      go_ret
      exact ⟨rfl, (TS.of HT.out).below (below_drewN (alloc_below w _) (n2 + n3))⟩
end
end Go.Proofs.Ytpgnadngiaibeaa
