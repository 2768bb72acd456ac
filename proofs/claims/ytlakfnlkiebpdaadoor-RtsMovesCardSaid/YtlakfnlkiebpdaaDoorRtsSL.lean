/- The contract of look on any two words. Condition: the memory is right. -/
import Derived.Test.YtlakfnlkiebpdaaDoorRtsSM
namespace Go.Proofs.YtlakfnlkiebpdaaDoor
open Go Go.RowKit
theorem idx_even {os : List Ob} {h W i a : Nat} (e : idxAt os h W (toP (a : Int)) = some i) : isIntB (a : Int) = false := by
  have h1 := (idxAt_some e).2
  have h2 : toP (a : Int) ≠ 0 := by
    intro h0
    rw [h0] at h1
    unfold adr at h1
    split at h1 <;> omega
  unfold toP at h2
  unfold isIntB
  split at h2
  · rename_i q
    first | (simp; omega) | (rw [decide_eq_false]; omega)
  · exact absurd rfl h2
def lookT : Nat ⊕ (List Nat × List Nat) → Int × Int × Int
  | .inl k => if k = 4 then (0, 0, 40) else ((k : Int), 0, 0)
  | .inr p => (-1, (p.1.length : Int), 0)
section
variable {w : World} {b W h : Nat} {now old : List Ob} {R : Nat → Value}

set_option maxRecDepth 100000 in
set_option maxHeartbeats 8000000 in
theorem look_w1 (m : Mem w b W h R now old) (z : WF W h now old) (a c : Nat) (ha : a < 18446744073709551616) (hc : c < 18446744073709551616) (ha : idxAt now h W (toP (a : Int)) = none ∧ isIntB (a : Int) = false)  :
    Calls Tryd.prog 63 #[.pointer (some ⟨b, 0, none⟩), .int .u64 (a : Int), .int .u64 (c : Int)] w fun e w' => e = .returned (.tuple #[.int .i64 0, .int .i64 0, .int .i64 40]) ∧ ∃ n, w' = w.drewN n := by
  have HTA := Lib.hid (show Calls _ _ _ _ (fun e w' => e = .returned (.int .i64 (toP (a : Int))) ∧ w' = w) from (toptr_any (a : Int) w (by omega) (by omega)).mono fun e w' ⟨h1, h2⟩ => ⟨h1, h2.symm⟩)
  have hpa : toP (a : Int) ≤ 1099511627776 := by unfold toP; split <;> omega
  have HTC := Lib.hid (show Calls _ _ _ _ (fun e w' => e = .returned (.int .i64 (toP (c : Int))) ∧ w' = w) from (toptr_any (c : Int) w (by omega) (by omega)).mono fun e w' ⟨h1, h2⟩ => ⟨h1, h2.symm⟩)
  have hpc : toP (c : Int) ≤ 1099511627776 := by unfold toP; split <;> omega
  have hia := ha.2
  have HIA := Lib.hid (fun W1 : World => show Calls _ _ _ W1 (fun e w' => e = .returned (.bool false) ∧ w' = W1) from (isint_any (a : Int) W1 (by omega) (by omega)).mono fun e w' ⟨h1, h2⟩ => ⟨by rw [h1, hia], h2.symm⟩)
  have HLA := Lib.hid (look_miss m z _ (by omega) ha.1)
  obtain ⟨A, hA⟩ : ∃ A, toP (a : Int) = A := ⟨_, rfl⟩
  rw [hA] at HTA HLA
  obtain ⟨C, hC⟩ : ∃ C, toP (c : Int) = C := ⟨_, rfl⟩
  rw [hC] at HTC
  clear m z hA hC hpa hpc hia
  clear ha
  go_enter Tryd.func63, Tryd.ntmps63
  go_wp2_with fail
  refine (HTA.out).mono ?_
  rintro e w1 ⟨rfl, hw1⟩
  subst w1
  go_wp2_with fail
  refine (HTC.out).mono ?_
  rintro e w1 ⟨rfl, hw1⟩
  subst w1
  go_wp2_with fail
  refine HLA.out.mono ?_
  rintro e w1 ⟨rfl, qa, hw1⟩
  subst w1
  go_wp2_with fail
  refine (HIA.out _).mono ?_
  rintro e w1 ⟨rfl, hw1⟩
  subst w1
  go_wp2_with fail
  go_ret3
  exact ⟨rfl, _, rfl⟩
set_option maxRecDepth 100000 in
set_option maxHeartbeats 8000000 in
theorem look_w2 (m : Mem w b W h R now old) (z : WF W h now old) (a c : Nat) (ha : a < 18446744073709551616) (hc : c < 18446744073709551616) (ha : ∃ i, idxAt now h W (toP (a : Int)) = some i) (hc : idxAt now h W (toP (c : Int)) = none ∧ isIntB (c : Int) = false) :
    Calls Tryd.prog 63 #[.pointer (some ⟨b, 0, none⟩), .int .u64 (a : Int), .int .u64 (c : Int)] w fun e w' => e = .returned (.tuple #[.int .i64 0, .int .i64 0, .int .i64 40]) ∧ ∃ n, w' = w.drewN n := by
  have HTA := Lib.hid (show Calls _ _ _ _ (fun e w' => e = .returned (.int .i64 (toP (a : Int))) ∧ w' = w) from (toptr_any (a : Int) w (by omega) (by omega)).mono fun e w' ⟨h1, h2⟩ => ⟨h1, h2.symm⟩)
  have hpa : toP (a : Int) ≤ 1099511627776 := by unfold toP; split <;> omega
  have HTC := Lib.hid (show Calls _ _ _ _ (fun e w' => e = .returned (.int .i64 (toP (c : Int))) ∧ w' = w) from (toptr_any (c : Int) w (by omega) (by omega)).mono fun e w' ⟨h1, h2⟩ => ⟨h1, h2.symm⟩)
  have hpc : toP (c : Int) ≤ 1099511627776 := by unfold toP; split <;> omega
  have hia : isIntB (a : Int) = false := by obtain ⟨i, hi⟩ := ha; exact idx_even hi
  have HIA := Lib.hid (fun W1 : World => show Calls _ _ _ W1 (fun e w' => e = .returned (.bool false) ∧ w' = W1) from (isint_any (a : Int) W1 (by omega) (by omega)).mono fun e w' ⟨h1, h2⟩ => ⟨by rw [h1, hia], h2.symm⟩)
  have hic := hc.2
  have HIC := Lib.hid (fun W1 : World => show Calls _ _ _ W1 (fun e w' => e = .returned (.bool false) ∧ w' = W1) from (isint_any (c : Int) W1 (by omega) (by omega)).mono fun e w' ⟨h1, h2⟩ => ⟨by rw [h1, hic], h2.symm⟩)
  obtain ⟨ia, qa⟩ := ha
  have HLA := Lib.hid (look_hit m z _ (by omega) qa (idx_ob qa))
  have HLC := Lib.hid (fun q => look_miss (m.drewN q) z _ (by omega) hc.1)
  obtain ⟨A, hA⟩ : ∃ A, toP (a : Int) = A := ⟨_, rfl⟩
  rw [hA] at HTA HLA
  obtain ⟨C, hC⟩ : ∃ C, toP (c : Int) = C := ⟨_, rfl⟩
  rw [hC] at HTC HLC
  obtain ⟨oa, hoa⟩ : ∃ o, obN now ia = o := ⟨_, rfl⟩
  rw [hoa] at HLA
  clear hoa qa
  clear m z hA hC hpa hpc hia hic
  clear hc
  go_enter Tryd.func63, Tryd.ntmps63
  go_wp2_with fail
  refine (HTA.out).mono ?_
  rintro e w1 ⟨rfl, hw1⟩
  subst w1
  go_wp2_with fail
  refine (HTC.out).mono ?_
  rintro e w1 ⟨rfl, hw1⟩
  subst w1
  go_wp2_with fail
  refine HLA.out.mono ?_
  rintro e w1 ⟨rfl, qa, hw1⟩
  subst w1
  go_wp2_with fail
  refine (HLC.out qa).mono ?_
  rintro e w1 ⟨rfl, qc, hw1⟩
  subst w1
  go_wp2_with fail
  refine (HIC.out _).mono ?_
  rintro e w1 ⟨rfl, hw1⟩
  subst w1
  go_wp2_with fail
  go_ret3
  exact ⟨rfl, _, rfl⟩
set_option maxRecDepth 100000 in
set_option maxHeartbeats 8000000 in
theorem look_w3 (m : Mem w b W h R now old) (z : WF W h now old) (a c : Nat) (ha : a < 18446744073709551616) (hc : c < 18446744073709551616) (ha : idxAt now h W (toP (a : Int)) = none ∧ isIntB (a : Int) = true) (hc : idxAt now h W (toP (c : Int)) = none ∧ isIntB (c : Int) = false) :
    Calls Tryd.prog 63 #[.pointer (some ⟨b, 0, none⟩), .int .u64 (a : Int), .int .u64 (c : Int)] w fun e w' => e = .returned (.tuple #[.int .i64 0, .int .i64 0, .int .i64 40]) ∧ ∃ n, w' = w.drewN n := by
  have HTA := Lib.hid (show Calls _ _ _ _ (fun e w' => e = .returned (.int .i64 (toP (a : Int))) ∧ w' = w) from (toptr_any (a : Int) w (by omega) (by omega)).mono fun e w' ⟨h1, h2⟩ => ⟨h1, h2.symm⟩)
  have hpa : toP (a : Int) ≤ 1099511627776 := by unfold toP; split <;> omega
  have HTC := Lib.hid (show Calls _ _ _ _ (fun e w' => e = .returned (.int .i64 (toP (c : Int))) ∧ w' = w) from (toptr_any (c : Int) w (by omega) (by omega)).mono fun e w' ⟨h1, h2⟩ => ⟨h1, h2.symm⟩)
  have hpc : toP (c : Int) ≤ 1099511627776 := by unfold toP; split <;> omega
  have hia := ha.2
  have HIA := Lib.hid (fun W1 : World => show Calls _ _ _ W1 (fun e w' => e = .returned (.bool true) ∧ w' = W1) from (isint_any (a : Int) W1 (by omega) (by omega)).mono fun e w' ⟨h1, h2⟩ => ⟨by rw [h1, hia], h2.symm⟩)
  have hic := hc.2
  have HIC := Lib.hid (fun W1 : World => show Calls _ _ _ W1 (fun e w' => e = .returned (.bool false) ∧ w' = W1) from (isint_any (c : Int) W1 (by omega) (by omega)).mono fun e w' ⟨h1, h2⟩ => ⟨by rw [h1, hic], h2.symm⟩)
  have HLA := Lib.hid (look_miss m z _ (by omega) ha.1)
  have HLC := Lib.hid (fun q => look_miss (m.drewN q) z _ (by omega) hc.1)
  obtain ⟨A, hA⟩ : ∃ A, toP (a : Int) = A := ⟨_, rfl⟩
  rw [hA] at HTA HLA
  obtain ⟨C, hC⟩ : ∃ C, toP (c : Int) = C := ⟨_, rfl⟩
  rw [hC] at HTC HLC
  clear m z hA hC hpa hpc hia hic
  clear ha
  clear hc
  go_enter Tryd.func63, Tryd.ntmps63
  go_wp2_with fail
  refine (HTA.out).mono ?_
  rintro e w1 ⟨rfl, hw1⟩
  subst w1
  go_wp2_with fail
  refine (HTC.out).mono ?_
  rintro e w1 ⟨rfl, hw1⟩
  subst w1
  go_wp2_with fail
  refine HLA.out.mono ?_
  rintro e w1 ⟨rfl, qa, hw1⟩
  subst w1
  go_wp2_with fail
  refine (HIA.out _).mono ?_
  rintro e w1 ⟨rfl, hw1⟩
  subst w1
  go_wp2_with fail
  refine (HLC.out qa).mono ?_
  rintro e w1 ⟨rfl, qc, hw1⟩
  subst w1
  go_wp2_with fail
  refine (HIC.out _).mono ?_
  rintro e w1 ⟨rfl, hw1⟩
  subst w1
  go_wp2_with fail
  go_ret3
  exact ⟨rfl, _, rfl⟩
set_option maxRecDepth 100000 in
set_option maxHeartbeats 8000000 in
theorem look_i1 (m : Mem w b W h R now old) (z : WF W h now old) (a c : Nat) (ha : a < 18446744073709551616) (hc : c < 18446744073709551616) (ha : ∃ i, idxAt now h W (toP (a : Int)) = some i) (hc : idxAt now h W (toP (c : Int)) = none ∧ isIntB (c : Int) = true) :
    Calls Tryd.prog 63 #[.pointer (some ⟨b, 0, none⟩), .int .u64 (a : Int), .int .u64 (c : Int)] w fun e w' => e = .returned (.tuple #[.int .i64 (if a = c then 1 else 0), .int .i64 0, .int .i64 0]) ∧ ∃ n, w' = w.drewN n := by
  have HTA := Lib.hid (show Calls _ _ _ _ (fun e w' => e = .returned (.int .i64 (toP (a : Int))) ∧ w' = w) from (toptr_any (a : Int) w (by omega) (by omega)).mono fun e w' ⟨h1, h2⟩ => ⟨h1, h2.symm⟩)
  have hpa : toP (a : Int) ≤ 1099511627776 := by unfold toP; split <;> omega
  have HTC := Lib.hid (show Calls _ _ _ _ (fun e w' => e = .returned (.int .i64 (toP (c : Int))) ∧ w' = w) from (toptr_any (c : Int) w (by omega) (by omega)).mono fun e w' ⟨h1, h2⟩ => ⟨h1, h2.symm⟩)
  have hpc : toP (c : Int) ≤ 1099511627776 := by unfold toP; split <;> omega
  have hia : isIntB (a : Int) = false := by obtain ⟨i, hi⟩ := ha; exact idx_even hi
  have HIA := Lib.hid (fun W1 : World => show Calls _ _ _ W1 (fun e w' => e = .returned (.bool false) ∧ w' = W1) from (isint_any (a : Int) W1 (by omega) (by omega)).mono fun e w' ⟨h1, h2⟩ => ⟨by rw [h1, hia], h2.symm⟩)
  have hic := hc.2
  have HIC := Lib.hid (fun W1 : World => show Calls _ _ _ W1 (fun e w' => e = .returned (.bool true) ∧ w' = W1) from (isint_any (c : Int) W1 (by omega) (by omega)).mono fun e w' ⟨h1, h2⟩ => ⟨by rw [h1, hic], h2.symm⟩)
  obtain ⟨ia, qa⟩ := ha
  have HLA := Lib.hid (look_hit m z _ (by omega) qa (idx_ob qa))
  have HLC := Lib.hid (fun q => look_miss (m.drewN q) z _ (by omega) hc.1)
  obtain ⟨A, hA⟩ : ∃ A, toP (a : Int) = A := ⟨_, rfl⟩
  rw [hA] at HTA HLA
  obtain ⟨C, hC⟩ : ∃ C, toP (c : Int) = C := ⟨_, rfl⟩
  rw [hC] at HTC HLC
  obtain ⟨oa, hoa⟩ : ∃ o, obN now ia = o := ⟨_, rfl⟩
  rw [hoa] at HLA
  clear hoa qa
  clear m z hA hC hpa hpc hia hic
  clear hc
  by_cases hac : a = c
  · have hac2 : ((a : Int) == (c : Int)) = true := by simp; omega
    have HE := Lib.hid hac
    clear hac
    go_enter Tryd.func63, Tryd.ntmps63
    go_wp2_with fail
    refine (HTA.out).mono ?_
    rintro e w1 ⟨rfl, hw1⟩
    subst w1
    go_wp2_with fail
    refine (HTC.out).mono ?_
    rintro e w1 ⟨rfl, hw1⟩
    subst w1
    go_wp2_with fail
    refine HLA.out.mono ?_
    rintro e w1 ⟨rfl, qa, hw1⟩
    subst w1
    go_wp2_with fail
    refine (HLC.out qa).mono ?_
    rintro e w1 ⟨rfl, qc, hw1⟩
    subst w1
    go_wp2_with fail
    refine (HIC.out _).mono ?_
    rintro e w1 ⟨rfl, hw1⟩
    subst w1
    go_wp2_with fail
    refine (HIA.out _).mono ?_
    rintro e w1 ⟨rfl, hw1⟩
    subst w1
    go_wp2_with fail
    refine (HIC.out _).mono ?_
    rintro e w1 ⟨rfl, hw1⟩
    subst w1
    go_wp2_with fail
    refine (alike_is true _).mono ?_
    rintro e w1 ⟨rfl, hw1⟩
    subst w1
    go_wp2_with fail
    go_ret3
    exact ⟨by first | rfl | (rw [if_pos HE.out]; rfl), _, rfl⟩
  · have hac2 : ((a : Int) == (c : Int)) = false := by simp; omega
    have HE := Lib.hid hac
    clear hac
    go_enter Tryd.func63, Tryd.ntmps63
    go_wp2_with fail
    refine (HTA.out).mono ?_
    rintro e w1 ⟨rfl, hw1⟩
    subst w1
    go_wp2_with fail
    refine (HTC.out).mono ?_
    rintro e w1 ⟨rfl, hw1⟩
    subst w1
    go_wp2_with fail
    refine HLA.out.mono ?_
    rintro e w1 ⟨rfl, qa, hw1⟩
    subst w1
    go_wp2_with fail
    refine (HLC.out qa).mono ?_
    rintro e w1 ⟨rfl, qc, hw1⟩
    subst w1
    go_wp2_with fail
    refine (HIC.out _).mono ?_
    rintro e w1 ⟨rfl, hw1⟩
    subst w1
    go_wp2_with fail
    refine (HIA.out _).mono ?_
    rintro e w1 ⟨rfl, hw1⟩
    subst w1
    go_wp2_with fail
    refine (HIC.out _).mono ?_
    rintro e w1 ⟨rfl, hw1⟩
    subst w1
    go_wp2_with fail
    refine (alike_is false _).mono ?_
    rintro e w1 ⟨rfl, hw1⟩
    subst w1
    go_wp2_with fail
    go_ret3
    exact ⟨by first | rfl | (rw [if_neg HE.out]; rfl), _, rfl⟩
set_option maxRecDepth 100000 in
set_option maxHeartbeats 8000000 in
theorem look_i2 (m : Mem w b W h R now old) (z : WF W h now old) (a c : Nat) (ha : a < 18446744073709551616) (hc : c < 18446744073709551616) (ha : idxAt now h W (toP (a : Int)) = none ∧ isIntB (a : Int) = true) (hc : ∃ i, idxAt now h W (toP (c : Int)) = some i) :
    Calls Tryd.prog 63 #[.pointer (some ⟨b, 0, none⟩), .int .u64 (a : Int), .int .u64 (c : Int)] w fun e w' => e = .returned (.tuple #[.int .i64 (if a = c then 1 else 0), .int .i64 0, .int .i64 0]) ∧ ∃ n, w' = w.drewN n := by
  have HTA := Lib.hid (show Calls _ _ _ _ (fun e w' => e = .returned (.int .i64 (toP (a : Int))) ∧ w' = w) from (toptr_any (a : Int) w (by omega) (by omega)).mono fun e w' ⟨h1, h2⟩ => ⟨h1, h2.symm⟩)
  have hpa : toP (a : Int) ≤ 1099511627776 := by unfold toP; split <;> omega
  have HTC := Lib.hid (show Calls _ _ _ _ (fun e w' => e = .returned (.int .i64 (toP (c : Int))) ∧ w' = w) from (toptr_any (c : Int) w (by omega) (by omega)).mono fun e w' ⟨h1, h2⟩ => ⟨h1, h2.symm⟩)
  have hpc : toP (c : Int) ≤ 1099511627776 := by unfold toP; split <;> omega
  have hia := ha.2
  have HIA := Lib.hid (fun W1 : World => show Calls _ _ _ W1 (fun e w' => e = .returned (.bool true) ∧ w' = W1) from (isint_any (a : Int) W1 (by omega) (by omega)).mono fun e w' ⟨h1, h2⟩ => ⟨by rw [h1, hia], h2.symm⟩)
  have hic : isIntB (c : Int) = false := by obtain ⟨i, hi⟩ := hc; exact idx_even hi
  have HIC := Lib.hid (fun W1 : World => show Calls _ _ _ W1 (fun e w' => e = .returned (.bool false) ∧ w' = W1) from (isint_any (c : Int) W1 (by omega) (by omega)).mono fun e w' ⟨h1, h2⟩ => ⟨by rw [h1, hic], h2.symm⟩)
  have HLA := Lib.hid (look_miss m z _ (by omega) ha.1)
  obtain ⟨ic, qc⟩ := hc
  have HLC := Lib.hid (fun q => look_hit (m.drewN q) z _ (by omega) qc (idx_ob qc))
  obtain ⟨A, hA⟩ : ∃ A, toP (a : Int) = A := ⟨_, rfl⟩
  rw [hA] at HTA HLA
  obtain ⟨C, hC⟩ : ∃ C, toP (c : Int) = C := ⟨_, rfl⟩
  rw [hC] at HTC HLC
  obtain ⟨oc, hoc⟩ : ∃ o, obN now ic = o := ⟨_, rfl⟩
  rw [hoc] at HLC
  clear hoc qc
  clear m z hA hC hpa hpc hia hic
  clear ha
  by_cases hac : a = c
  · have hac2 : ((a : Int) == (c : Int)) = true := by simp; omega
    have HE := Lib.hid hac
    clear hac
    go_enter Tryd.func63, Tryd.ntmps63
    go_wp2_with fail
    refine (HTA.out).mono ?_
    rintro e w1 ⟨rfl, hw1⟩
    subst w1
    go_wp2_with fail
    refine (HTC.out).mono ?_
    rintro e w1 ⟨rfl, hw1⟩
    subst w1
    go_wp2_with fail
    refine HLA.out.mono ?_
    rintro e w1 ⟨rfl, qa, hw1⟩
    subst w1
    go_wp2_with fail
    refine (HIA.out _).mono ?_
    rintro e w1 ⟨rfl, hw1⟩
    subst w1
    go_wp2_with fail
    refine (HLC.out qa).mono ?_
    rintro e w1 ⟨rfl, qc, hw1⟩
    subst w1
    go_wp2_with fail
    refine (HIA.out _).mono ?_
    rintro e w1 ⟨rfl, hw1⟩
    subst w1
    go_wp2_with fail
    refine (alike_is true _).mono ?_
    rintro e w1 ⟨rfl, hw1⟩
    subst w1
    go_wp2_with fail
    go_ret3
    exact ⟨by first | rfl | (rw [if_pos HE.out]; rfl), _, rfl⟩
  · have hac2 : ((a : Int) == (c : Int)) = false := by simp; omega
    have HE := Lib.hid hac
    clear hac
    go_enter Tryd.func63, Tryd.ntmps63
    go_wp2_with fail
    refine (HTA.out).mono ?_
    rintro e w1 ⟨rfl, hw1⟩
    subst w1
    go_wp2_with fail
    refine (HTC.out).mono ?_
    rintro e w1 ⟨rfl, hw1⟩
    subst w1
    go_wp2_with fail
    refine HLA.out.mono ?_
    rintro e w1 ⟨rfl, qa, hw1⟩
    subst w1
    go_wp2_with fail
    refine (HIA.out _).mono ?_
    rintro e w1 ⟨rfl, hw1⟩
    subst w1
    go_wp2_with fail
    refine (HLC.out qa).mono ?_
    rintro e w1 ⟨rfl, qc, hw1⟩
    subst w1
    go_wp2_with fail
    refine (HIA.out _).mono ?_
    rintro e w1 ⟨rfl, hw1⟩
    subst w1
    go_wp2_with fail
    refine (alike_is false _).mono ?_
    rintro e w1 ⟨rfl, hw1⟩
    subst w1
    go_wp2_with fail
    go_ret3
    exact ⟨by first | rfl | (rw [if_neg HE.out]; rfl), _, rfl⟩
set_option maxRecDepth 100000 in
set_option maxHeartbeats 8000000 in
theorem look_i3 (m : Mem w b W h R now old) (z : WF W h now old) (a c : Nat) (ha : a < 18446744073709551616) (hc : c < 18446744073709551616) (ha : idxAt now h W (toP (a : Int)) = none ∧ isIntB (a : Int) = true) (hc : idxAt now h W (toP (c : Int)) = none ∧ isIntB (c : Int) = true) :
    Calls Tryd.prog 63 #[.pointer (some ⟨b, 0, none⟩), .int .u64 (a : Int), .int .u64 (c : Int)] w fun e w' => e = .returned (.tuple #[.int .i64 (if a = c then 1 else 0), .int .i64 0, .int .i64 0]) ∧ ∃ n, w' = w.drewN n := by
  have HTA := Lib.hid (show Calls _ _ _ _ (fun e w' => e = .returned (.int .i64 (toP (a : Int))) ∧ w' = w) from (toptr_any (a : Int) w (by omega) (by omega)).mono fun e w' ⟨h1, h2⟩ => ⟨h1, h2.symm⟩)
  have hpa : toP (a : Int) ≤ 1099511627776 := by unfold toP; split <;> omega
  have HTC := Lib.hid (show Calls _ _ _ _ (fun e w' => e = .returned (.int .i64 (toP (c : Int))) ∧ w' = w) from (toptr_any (c : Int) w (by omega) (by omega)).mono fun e w' ⟨h1, h2⟩ => ⟨h1, h2.symm⟩)
  have hpc : toP (c : Int) ≤ 1099511627776 := by unfold toP; split <;> omega
  have hia := ha.2
  have HIA := Lib.hid (fun W1 : World => show Calls _ _ _ W1 (fun e w' => e = .returned (.bool true) ∧ w' = W1) from (isint_any (a : Int) W1 (by omega) (by omega)).mono fun e w' ⟨h1, h2⟩ => ⟨by rw [h1, hia], h2.symm⟩)
  have hic := hc.2
  have HIC := Lib.hid (fun W1 : World => show Calls _ _ _ W1 (fun e w' => e = .returned (.bool true) ∧ w' = W1) from (isint_any (c : Int) W1 (by omega) (by omega)).mono fun e w' ⟨h1, h2⟩ => ⟨by rw [h1, hic], h2.symm⟩)
  have HLA := Lib.hid (look_miss m z _ (by omega) ha.1)
  have HLC := Lib.hid (fun q => look_miss (m.drewN q) z _ (by omega) hc.1)
  obtain ⟨A, hA⟩ : ∃ A, toP (a : Int) = A := ⟨_, rfl⟩
  rw [hA] at HTA HLA
  obtain ⟨C, hC⟩ : ∃ C, toP (c : Int) = C := ⟨_, rfl⟩
  rw [hC] at HTC HLC
  clear m z hA hC hpa hpc hia hic
  clear ha
  clear hc
  by_cases hac : a = c
  · have hac2 : ((a : Int) == (c : Int)) = true := by simp; omega
    have HE := Lib.hid hac
    clear hac
    go_enter Tryd.func63, Tryd.ntmps63
    go_wp2_with fail
    refine (HTA.out).mono ?_
    rintro e w1 ⟨rfl, hw1⟩
    subst w1
    go_wp2_with fail
    refine (HTC.out).mono ?_
    rintro e w1 ⟨rfl, hw1⟩
    subst w1
    go_wp2_with fail
    refine HLA.out.mono ?_
    rintro e w1 ⟨rfl, qa, hw1⟩
    subst w1
    go_wp2_with fail
    refine (HIA.out _).mono ?_
    rintro e w1 ⟨rfl, hw1⟩
    subst w1
    go_wp2_with fail
    refine (HLC.out qa).mono ?_
    rintro e w1 ⟨rfl, qc, hw1⟩
    subst w1
    go_wp2_with fail
    refine (HIC.out _).mono ?_
    rintro e w1 ⟨rfl, hw1⟩
    subst w1
    go_wp2_with fail
    refine (HIA.out _).mono ?_
    rintro e w1 ⟨rfl, hw1⟩
    subst w1
    go_wp2_with fail
    refine (alike_is true _).mono ?_
    rintro e w1 ⟨rfl, hw1⟩
    subst w1
    go_wp2_with fail
    go_ret3
    exact ⟨by first | rfl | (rw [if_pos HE.out]; rfl), _, rfl⟩
  · have hac2 : ((a : Int) == (c : Int)) = false := by simp; omega
    have HE := Lib.hid hac
    clear hac
    go_enter Tryd.func63, Tryd.ntmps63
    go_wp2_with fail
    refine (HTA.out).mono ?_
    rintro e w1 ⟨rfl, hw1⟩
    subst w1
    go_wp2_with fail
    refine (HTC.out).mono ?_
    rintro e w1 ⟨rfl, hw1⟩
    subst w1
    go_wp2_with fail
    refine HLA.out.mono ?_
    rintro e w1 ⟨rfl, qa, hw1⟩
    subst w1
    go_wp2_with fail
    refine (HIA.out _).mono ?_
    rintro e w1 ⟨rfl, hw1⟩
    subst w1
    go_wp2_with fail
    refine (HLC.out qa).mono ?_
    rintro e w1 ⟨rfl, qc, hw1⟩
    subst w1
    go_wp2_with fail
    refine (HIC.out _).mono ?_
    rintro e w1 ⟨rfl, hw1⟩
    subst w1
    go_wp2_with fail
    refine (HIA.out _).mono ?_
    rintro e w1 ⟨rfl, hw1⟩
    subst w1
    go_wp2_with fail
    refine (alike_is false _).mono ?_
    rintro e w1 ⟨rfl, hw1⟩
    subst w1
    go_wp2_with fail
    go_ret3
    exact ⟨by first | rfl | (rw [if_neg HE.out]; rfl), _, rfl⟩
theorem look_any (m : Mem w b W h R now old) (z : WF W h now old) (a c : Nat) (ha : a < 18446744073709551616) (hc : c < 18446744073709551616) :
    Calls Tryd.prog 63 #[.pointer (some ⟨b, 0, none⟩), .int .u64 (a : Int), .int .u64 (c : Int)] w fun e w' => e = .returned (.tuple #[.int .i64 (lookT (lookS now h W a c)).1, .int .i64 (lookT (lookS now h W a c)).2.1, .int .i64 (lookT (lookS now h W a c)).2.2]) ∧ ∃ n, w' = w.drewN n := by
  have hb : ∀ x : Bool, x = true ∨ x = false := fun x => by cases x <;> simp
  unfold lookS
  cases ea : idxAt now h W (toP (a : Int)) with
  | none =>
    rcases hb (isIntB (a : Int)) with ia | ia
    · cases ec : idxAt now h W (toP (c : Int)) with
      | none =>
        rcases hb (isIntB (c : Int)) with ic | ic
        · refine (look_i3 m z a c ha hc ⟨ea, ia⟩ ⟨ec, ic⟩).mono fun e w' ⟨h1, h2⟩ => ⟨?_, h2⟩
          simp only
          rw [if_neg (by rw [ia, ic]; simp), h1]
          by_cases hac : a = c
          · rw [if_pos hac, if_pos hac]; rfl
          · rw [if_neg hac, if_neg hac]; rfl
        · refine (look_w3 m z a c ha hc ⟨ea, ia⟩ ⟨ec, ic⟩).mono fun e w' ⟨h1, h2⟩ => ⟨?_, h2⟩
          simp only
          rw [if_pos (.inr ic), h1]; rfl
      | some j =>
        refine (look_i2 m z a c ha hc ⟨ea, ia⟩ ⟨j, ec⟩).mono fun e w' ⟨h1, h2⟩ => ⟨?_, h2⟩
        simp only
        rw [if_neg (by rw [ia]; simp), h1]
        by_cases hac : a = c
        · rw [if_pos hac, if_pos hac]; rfl
        · rw [if_neg hac, if_neg hac]; rfl
    · refine (look_w1 m z a c ha hc ⟨ea, ia⟩).mono fun e w' ⟨h1, h2⟩ => ⟨?_, h2⟩
      cases ec : idxAt now h W (toP (c : Int)) with
      | none => simp only; rw [if_pos (.inl ia), h1]; rfl
      | some j => simp only; rw [if_pos ia, h1]; rfl
  | some i =>
    cases ec : idxAt now h W (toP (c : Int)) with
    | none =>
      rcases hb (isIntB (c : Int)) with ic | ic
      · refine (look_i1 m z a c ha hc ⟨i, ea⟩ ⟨ec, ic⟩).mono fun e w' ⟨h1, h2⟩ => ⟨?_, h2⟩
        simp only
        rw [if_neg (by rw [ic]; simp), h1]
        by_cases hac : a = c
        · rw [if_pos hac, if_pos hac]; rfl
        · rw [if_neg hac, if_neg hac]; rfl
      · refine (look_w2 m z a c ha hc ⟨i, ea⟩ ⟨ec, ic⟩).mono fun e w' ⟨h1, h2⟩ => ⟨?_, h2⟩
        simp only
        rw [if_pos ic, h1]; rfl
    | some j =>
      refine (look_obj m z a c ha hc (idx_even ea) (idx_even ec) ea (idx_ob ea) ec (idx_ob ec)).mono fun e w' ⟨h1, h2⟩ => ⟨?_, h2⟩
      have hadr : toP (a : Int) = toP (c : Int) ↔ i = j := by
        constructor
        · intro q; rw [q, ec] at ea; exact (Option.some.inj ea).symm
        · intro q; subst q; rw [(idxAt_some ea).2, (idxAt_some ec).2]
      rw [h1]
      simp only
      unfold lookO
      by_cases q1 : isC (obN now i).k = true ∨ isC (obN now j).k = true
      · rw [if_pos q1, if_pos q1]; rfl
      rw [if_neg q1, if_neg q1]
      by_cases q2 : (obN now i).k ≠ (obN now j).k
      · rw [if_pos q2, if_pos q2]; rfl
      rw [if_neg q2, if_neg q2]
      by_cases q3 : (obN now i).k = 2
      · rw [if_pos q3, if_pos q3]
        by_cases q4 : i = j
        · rw [if_pos q4, if_pos (hadr.2 q4)]; rfl
        · rw [if_neg q4, if_neg (fun q => q4 (hadr.1 q))]; rfl
      rw [if_neg q3, if_neg q3]
      by_cases q5 : (obN now i).ws.length ≠ (obN now j).ws.length
      · rw [if_pos q5, if_pos q5]; rfl
      rw [if_neg q5, if_neg q5]
      by_cases q6 : (obN now i).k = 4
      · rw [if_pos q6, if_pos q6]
        by_cases q7 : (obN now i).ws = (obN now j).ws
        · rw [if_pos q7, if_pos q7]; rfl
        · rw [if_neg q7, if_neg q7]; rfl
      rw [if_neg q6, if_neg q6]
      rfl
end
end Go.Proofs.YtlakfnlkiebpdaaDoor
