/- step, the other calls. Conditions: the memories lie as Twin says. -/
import Derived.Test.YtpgnadngiaibeaaMemStepW
namespace Go.Proofs.Ytpgnadngiaibeaa
open Go Go.RowKit
section
variable {w : World} {b rb W h : Nat} {R : Nat → Value} {now old : List Ob} {v1 v2 : Value} {P1 P2 : List (RO × Value)}
set_option maxRecDepth 100000 in
set_option maxHeartbeats 8000000 in
theorem step_flip (t : Twin w b rb W h R now old v1 P1 v2 P2) : StepOf 5 w b rb W (OwnT b rb R v1 P1 v2 P2) := by
  intro A B C X _ _ _
  have HT := Lib.hid t
  clear t
  go_enter Try.func23, Try.ntmps23
  go_wp2_with fail
  refine (rflip_any (HT.out.below (alloc_below w _)).r HT.out.rz).mono ?_
  rintro e w2 ⟨rfl, r1, f1⟩
  have hm : Mem w2 b W h R now old := (HT.out.below (alloc_below w _)).m.kept f1 (fun i hi hr => HT.out.ap i hi hr)
  have HR := Lib.hid r1
  have HF := Lib.hid f1
  have HM := Lib.hid hm
  clear r1 f1 hm
  go_wp2_with fail
  refine (flip_any HM.out HT.out.z).mono ?_
  rintro e w3 ⟨rfl, m2⟩
  have HS := Lib.hid (((HT.out.below (alloc_below w _)).flip HR.out HF.out m2).pre (alloc_below w _))
  clear m2
  go_wp2_with fail
  go_ret
  exact ⟨rfl, HS.out⟩
set_option maxRecDepth 100000 in
set_option maxHeartbeats 8000000 in
theorem step_whole (t : Twin w b rb W h R now old v1 P1 v2 P2) : StepOf 9 w b rb W (OwnT b rb R v1 P1 v2 P2) := by
  intro A B C X _ _ _
  have HT := Lib.hid t
  clear t
  go_enter Try.func23, Try.ntmps23
  go_wp2_with fail
  refine (whole_any (HT.out.below (alloc_below w _))).mono ?_
  rintro e w2 ⟨rfl, hb⟩
  have HB := Lib.hid ((alloc_below w _).trans (hb.mono (alloc_below w _).size))
  clear hb
  go_wp2_with fail
  go_ret
  exact ⟨rfl, (TS.of HT.out).below HB.out⟩
set_option maxRecDepth 100000 in
set_option maxHeartbeats 8000000 in
theorem step_else (t : Twin w b rb W h R now old v1 P1 v2 P2) (kind : Int) (h1 : kind ≠ 1) (h2 : kind ≠ 2) (h3 : kind ≠ 3) (h4 : kind ≠ 4) (h5 : kind ≠ 5) (h6 : kind ≠ 6) (h9 : kind ≠ 9) : StepOf kind w b rb W (OwnT b rb R v1 P1 v2 P2) := by
  intro A B C X _ _ _
  have HT := Lib.hid t
  clear t
  have q1 : (kind == 1) = false := by simpa using h1
  have q2 : (kind == 2) = false := by simpa using h2
  have q3 : (kind == 3) = false := by simpa using h3
  have q4 : (kind == 4) = false := by simpa using h4
  have q5 : (kind == 5) = false := by simpa using h5
  have q6 : (kind == 6) = false := by simpa using h6
  have q9 : (kind == 9) = false := by simpa using h9
  clear h1 h2 h3 h4 h5 h6 h9
  go_enter Try.func23, Try.ntmps23
  go_wp2_with fail
  go_ret
  exact ⟨rfl, (TS.of HT.out).below (alloc_below w _)⟩
set_option maxRecDepth 100000 in
set_option maxHeartbeats 8000000 in
theorem step_move (t : Twin w b rb W h R now old v1 P1 v2 P2) : StepOf 6 w b rb W (OwnT b rb R v1 P1 v2 P2) := by
  intro A B C X hA _ _
  have HT := Lib.hid t
  clear t
  cases hi : idxAt old (1 - h) W A with
  | none =>
    have hr1 := fun W1 (hb : Below w.heap.size w W1) => move_miss (HT.out.below hb).m HT.out.z A hA hi
    have hr2 := fun W1 (hb : Below w.heap.size w W1) => rmove_miss (HT.out.below hb).r HT.out.rz A (by rw [P_idx HT.out.e2]; exact hi)
    have H1 := Lib.hid hr1
    have H2 := Lib.hid hr2
    clear hi hr1 hr2
    go_enter Try.func23, Try.ntmps23
    go_wp2_with fail
    refine (H1.out _ (alloc_below w _)).mono ?_
    rintro e w2 ⟨rfl, rfl⟩
    go_wp2_with fail
    refine (H2.out _ (alloc_below w _)).mono ?_
    rintro e w3 ⟨rfl, rfl⟩
    go_wp2_with fail
    go_ret
    exact ⟨rfl, (TS.of HT.out).below (alloc_below w _)⟩
  | some j =>
    have ho := List.getElem?_eq_getElem (idxAt_some hi).1
    obtain ⟨o, hoe⟩ : ∃ o, old[j]'(idxAt_some hi).1 = o := ⟨_, rfl⟩
    rw [hoe] at ho
    obtain ⟨u, hp⟩ := P_get HT.out.e2 ho
    have hfi : fidx P2 A = some j := by rw [P_idx HT.out.e2]; exact hi
    by_cases ht : o.to = 0
    · by_cases hfit : used now + o.ws.length + 1 ≤ W
      · obtain ⟨T, hT⟩ : ∃ T : Nat, adr h W (used now : Nat) = T := ⟨(adr h W (used now : Nat)).toNat, by unfold adr; split <;> omega⟩
        have hr1 := fun W1 (hb : Below w.heap.size w W1) => move_raw (HT.out.below hb).m HT.out.z A hA hi ho ht hfit T hT
        have hr2 := fun W1 (m : RM W1 rb W h v1 P1 v2 P2) => rmove_ok m HT.out.rz A hfi hp (by simp [roOf, ht]) (by rw [P_used HT.out.e1]; exact hfit)
        have hr2' : ∀ W1 (m : RM W1 rb W h v1 P1 v2 P2), Calls Try.prog 50 #[.pointer (some ⟨rb, 0, none⟩), .int .i64 A] W1 fun e w' => e = .returned (.tuple #[.int .i64 T, .int .i64 0]) ∧
            ∃ v' x, RM w' rb W h v' (P1 ++ [({ roOf (objA (1 - h) W old j) o with at_ := adr h W (usedP P1) }, x)]) v2 (P2.set j (pT (roOf (objA (1 - h) W old j) o, u) (adr h W (usedP P1)))) ∧ (∀ i, OwnR rb v' (P1 ++ [({ roOf (objA (1 - h) W old j) o with at_ := adr h W (usedP P1) }, x)]) v2 (P2.set j (pT (roOf (objA (1 - h) W old j) o, u) (adr h W (usedP P1)))) i → OwnR rb v1 P1 v2 P2 i ∨ W1.heap.size ≤ i) ∧ Fr (OwnR rb v1 P1 v2 P2) W1 w' := fun W1 m => (hr2 W1 m).mono fun e w' hh => ⟨hh.1.trans (by rw [P_used HT.out.e1, hT]), hh.2⟩
        have H1 := Lib.hid hr1
        have H2 := Lib.hid hr2'
        have HO := Lib.hid ho
        have HTO := Lib.hid ht
        have HFI := Lib.hid hfit
        have HTT := Lib.hid hT
        have qa : ((T : Int) == (T : Int)) = true := by simp
        clear hi hr1 hr2 hr2' ho hoe hp hfi ht hfit hT
        go_enter Try.func23, Try.ntmps23
        go_wp2_with fail
        refine (H1.out _ (alloc_below w _)).mono ?_
        rintro e w2 ⟨rfl, ms⟩
        have hblk : w2.heap[w.heap.size]? = some (.cells #[.int .i64 6, .int .i64 A, .int .i64 B, .int .i64 C, .int .u64 X] 42 (0, 0)) := by
          obtain ⟨_, _, _, hf⟩ := ms
          exact box_stays hf (fun i hi => HT.out.own_lt i (.inl hi))
        have f1 : w2.cell? ⟨w.heap.size, 1, none⟩ = some (.int .i64 A) := blk_cell hblk 1
        have hr2 : RM w2 rb W h v1 P1 v2 P2 := by
          obtain ⟨_, _, _, hf⟩ := ms
          exact (HT.out.below (alloc_below w _)).r.kept hf (fun i hi hb => HT.out.ap i hb hi)
        have HM := Lib.hid ms
        have HR2 := Lib.hid hr2
        clear hblk hr2 ms
        go_wp2_with fail
        refine (H2.out _ HR2.out).mono ?_
        rintro e w3 ⟨rfl, v', x, r', g', f'⟩
        have HS := Lib.hid (((HT.out.below (alloc_below w _)).move HO.out HTO.out HFI.out HTT.out HM.out r' g' f').pre (alloc_below w _))
        clear r' g' f'
        go_wp2_with fail
        go_ret
        exact ⟨rfl, HS.out⟩
      · have hr1 := fun W1 (hb : Below w.heap.size w W1) => move_full (HT.out.below hb).m HT.out.z A hA hi ho ht (by omega)
        have hr2 := fun W1 (hb : Below w.heap.size w W1) => rmove_full (HT.out.below hb).r HT.out.rz A hfi hp (by simp [roOf, ht]) (by rw [P_used HT.out.e1]; simp only [roOf]; omega)
        have H1 := Lib.hid hr1
        have H2 := Lib.hid hr2
        clear hi hr1 hr2 ho hoe hp hfi ht hfit
        go_enter Try.func23, Try.ntmps23
        go_wp2_with fail
        refine (H1.out _ (alloc_below w _)).mono ?_
        rintro e w2 ⟨rfl, n2, rfl⟩
        go_wp2_with fail
        refine (H2.out _ (below_drewN (alloc_below w _) n2)).mono ?_
        rintro e w3 ⟨rfl, n3, rfl⟩
        go_wp2_with fail
        go_ret
        exact ⟨rfl, (TS.of HT.out).below (below_drewN (alloc_below w _) (n2 + n3))⟩
    · have hr1 := fun W1 (hb : Below w.heap.size w W1) => move_done (HT.out.below hb).m HT.out.z A hA hi ho ht
      have hr2 := fun W1 (hb : Below w.heap.size w W1) => rmove_done (HT.out.below hb).r HT.out.rz A hfi hp (by simp only [roOf]; omega)
      simp only [roOf] at hr2
      have H1 := Lib.hid hr1
      have H2 := Lib.hid hr2
      have qa : ((o.to : Int) == (o.to : Int)) = true := by simp
      clear hi hr1 hr2 ho hoe hp hfi ht
      go_enter Try.func23, Try.ntmps23
      go_wp2_with fail
      refine (H1.out _ (alloc_below w _)).mono ?_
      rintro e w2 ⟨rfl, n2, rfl⟩
      go_wp2_with fail
      refine (H2.out _ (below_drewN (alloc_below w _) n2)).mono ?_
      rintro e w3 ⟨rfl, rfl⟩
      go_wp2_with fail
      go_ret
      exact ⟨rfl, (TS.of HT.out).below (below_drewN (alloc_below w _) n2)⟩
end
end Go.Proofs.Ytpgnadngiaibeaa
