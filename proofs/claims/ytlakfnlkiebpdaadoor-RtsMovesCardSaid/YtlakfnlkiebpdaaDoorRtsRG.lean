/- Contracts of the document's Object and GetText over the document's memory; GetText of both as one answer. Condition: the memory lies as RW says. -/
import Derived.Test.YtlakfnlkiebpdaaDoorRtsThree
import Derived.Test.YtlakfnlkiebpdaaDoorRtsTwo
namespace Go.Proofs.YtlakfnlkiebpdaaDoor
open Go Go.RowKit
theorem ro_set {W0 : World} {B : Nat} {T : TypeId} {x0 x1 x2 x3 x4 : Value} (h : W0.heap[B]? = some (.cells #[x0, x1, x2, x3, x4] T (0, 0))) (y0 y1 y2 y3 y4 : Value) :
    (((((W0.setCell ⟨B, 0, none⟩ y0).setCell ⟨B, 1, none⟩ y1).setCell ⟨B, 2, none⟩ y2).setCell ⟨B, 3, none⟩ y3).setCell ⟨B, 4, none⟩ y4).heap[B]? = some (.cells #[y0, y1, y2, y3, y4] T (0, 0)) := by
  have := blk_set (blk_set (blk_set (blk_set (blk_set h 0 y0) 1 y1) 2 y2) 3 y3) 4 y4
  simpa using this
theorem ro_below {w W0 : World} {B : Nat} (h : Below w.heap.size w W0) (hB : w.heap.size ≤ B) (y0 y1 y2 y3 y4 : Value) :
    Below w.heap.size w (((((W0.setCell ⟨B, 0, none⟩ y0).setCell ⟨B, 1, none⟩ y1).setCell ⟨B, 2, none⟩ y2).setCell ⟨B, 3, none⟩ y3).setCell ⟨B, 4, none⟩ y4) :=
  ((((h.setCell (p := ⟨B, 0, none⟩) hB _).setCell (p := ⟨B, 1, none⟩) hB _).setCell (p := ⟨B, 2, none⟩) hB _).setCell (p := ⟨B, 3, none⟩) hB _).setCell (p := ⟨B, 4, none⟩) hB _
section
variable {w0 w : World} {b W : Nat} {os : List Ob} {v : Value} {P : List (RO × Value)}
def roVal (p : RO × Value) : Value := .agg #[.int .i64 p.1.at_, .int .i64 p.1.k, .int .i64 p.1.t, p.2, .int .i64 p.1.to]
def roNil : Value := .agg #[.int .i64 0, .int .i64 0, .int .i64 0, .slice none 0 0, .int .i64 0]
set_option maxRecDepth 100000 in
set_option maxHeartbeats 4000000 in
theorem refobj_miss (x : RW w0 b W os w v P) (n : Nat) (hn : n < 18446744073709551616) (hi : idxAt os 0 W (toP (n : Int)) = none) :
    Calls Tryd.prog 61 #[.pointer (some ⟨b, 0, none⟩), .int .u64 (n : Int)] w fun e w' => e = .returned (.tuple #[roNil, .bool false]) ∧ Below w.heap.size w w' := by
  have HTP := Lib.hid (fun W1 : World => show Calls _ _ _ W1 (fun e w' => e = .returned (.int .i64 (toP (n : Int))) ∧ w' = W1) from (reftoptr_any (n : Int) W1 (by omega) (by omega)).mono fun e w' ⟨h1, h2⟩ => ⟨h1, h2.symm⟩)
  have hx1 := x.below (w1 := w.alloc (.cells #[.int .i64 0, .int .i64 0, .int .i64 0, .slice none 0 0, .int .i64 0] 91)) (below_one w _)
  have hf := fun q => (hx1.r.drewN q).find1 x.rz (toP (n : Int))
  have c2' := hx1.r.c2
  rw [show fidx P (toP (n : Int)) = none from by rw [P_idx x.e]; exact hi] at hf
  have hpb : toP (n : Int) ≤ 1099511627776 ∧ 0 ≤ toP (n : Int) := by unfold toP; split <;> omega
  obtain ⟨A, hA⟩ : ∃ A, toP (n : Int) = A := ⟨_, rfl⟩
  rw [hA] at HTP hf hpb
  have HF := Lib.hid (show ∀ q, Calls _ _ _ _ (fun e w' => e = .returned (.int .i64 (-1)) ∧ w' = _) from hf)
  have HBK := Lib.hid (heap_alloc_new w (.cells #[.int .i64 0, .int .i64 0, .int .i64 0, .slice none 0 0, .int .i64 0] 91))
  have HBL := Lib.hid (below_one w (.cells #[.int .i64 0, .int .i64 0, .int .i64 0, .slice none 0 0, .int .i64 0] 91))
  clear hf hA x hi hx1
  have hd : (A == 0) = true ∨ (A == 0) = false := by cases (A == 0) <;> simp
  clear hpb
  rcases hd with hd | hd
  all_goals
    go_enter Tryd.func61, Tryd.ntmps61
    go_wp2_with fail
    go_quiet ((first | (go_at_call 22; exact Calls.quiet_of_same (HTP.out _)) | (go_at_call 53; exact Calls.quiet_of_same (HF.out _))))
    go_wp2_with fail
    refine (HTP.out _).mono ?_
    rintro e w1 ⟨rfl, hw1⟩
    subst w1
    go_wp2_with fail
    have hb1 := ro_set (T := 91) (W0 := (w.alloc (.cells #[.int .i64 0, .int .i64 0, .int .i64 0, .slice none 0 0, .int .i64 0] 91)).drewN nq) HBK.out (.int .i64 0) (.int .i64 0) (.int .i64 0) (.slice none 0 0) (.int .i64 0)
    have hb2 := ro_below (Below.drewN' HBL.out nq) (Nat.le_refl _) (.int .i64 0) (.int .i64 0) (.int .i64 0) (.slice none 0 0) (.int .i64 0)
    generalize World.setCell (World.setCell (World.setCell (World.setCell (World.setCell _ _ _) _ _) _ _) _ _) _ _ = W4 at hb1 hb2 ⊢
    have f0 := blk_cell hb1 0
    have f1 := blk_cell hb1 1
    have f2 := blk_cell hb1 2
    have f3 := blk_cell hb1 3
    have f4 := blk_cell hb1 4
    exact bodyPost_ret (v := .tuple #[roNil, .bool false]) (by simp [roNil, results, Tryd.results61, go_sem, f0, f1, f2, f3, f4]) rfl ⟨rfl, hb2⟩
set_option maxRecDepth 100000 in
set_option maxHeartbeats 4000000 in
theorem refobj_hit (x : RW w0 b W os w v P) (n : Nat) (hn : n < 18446744073709551616) {j : Nat} {p : RO × Value} (hi : idxAt os 0 W (toP (n : Int)) = some j) (hp : P[j]? = some p) :
    Calls Tryd.prog 61 #[.pointer (some ⟨b, 0, none⟩), .int .u64 (n : Int)] w fun e w' => e = .returned (.tuple #[roVal p, .bool true]) ∧ Below w.heap.size w w' := by
  have HTP := Lib.hid (fun W1 : World => show Calls _ _ _ W1 (fun e w' => e = .returned (.int .i64 (toP (n : Int))) ∧ w' = W1) from (reftoptr_any (n : Int) W1 (by omega) (by omega)).mono fun e w' ⟨h1, h2⟩ => ⟨h1, h2.symm⟩)
  have hx1 := x.below (w1 := w.alloc (.cells #[.int .i64 0, .int .i64 0, .int .i64 0, .slice none 0 0, .int .i64 0] 91)) (below_one w _)
  have hf := fun q => (hx1.r.drewN q).find1 x.rz (toP (n : Int))
  have c2' := hx1.r.c2
  rw [show fidx P (toP (n : Int)) = some j from by rw [P_idx x.e]; exact hi] at hf
  obtain ⟨g, cap, hv, hc1, hc2, hj, A'⟩ := hx1.r.l1.at hp
  obtain ⟨ua, uc, hu, hu1, hu2⟩ := own_shape5 (hx1.r.l1.ws p (List.mem_of_getElem? hp))
  have hlu : P.length ≤ 65536 := Nat.le_trans (length_le_usedP P) x.rz.u1
  have hne : toP (n : Int) ≠ 0 := by
    intro h0
    rw [h0] at hi
    have := (idxAt_some hi).2
    have h2 : adr 0 W (start os j : Nat) = 0 := by
      first | exact this.symm | exact this | exact this.1.symm | exact this.1 | (obtain ⟨_, h3⟩ := this; exact h3.symm) 
    unfold adr at h2
    simp at h2
    omega
  have hd : (toP (n : Int) == 0) = false := by simp [hne]
  unfold roVal
  obtain ⟨at', ha⟩ : ∃ y, p.1.at_ = y := ⟨_, rfl⟩
  obtain ⟨k', hk⟩ : ∃ y, p.1.k = y := ⟨_, rfl⟩
  obtain ⟨t', ht⟩ : ∃ y, p.1.t = y := ⟨_, rfl⟩
  obtain ⟨to', hto⟩ : ∃ y, p.1.to = y := ⟨_, rfl⟩
  obtain ⟨L, hL⟩ : ∃ y, p.1.ws.length = y := ⟨_, rfl⟩
  have d0 := A'.c0
  have d1 := A'.c1
  have d2 := A'.c2
  have d3 := A'.c3
  have d4 := A'.c4
  rw [hu] at d3
  rw [hL] at hu d3
  rw [hv] at hf c2'
  rw [ha] at d0 ⊢
  rw [hk] at d1 ⊢
  rw [ht] at d2 ⊢
  rw [hto] at d4 ⊢
  rw [hu]
  have hj1 : (j : Int) < P.length := by omega
  have hj0 : (0 : Int) ≤ j := by omega
  obtain ⟨A, hA⟩ : ∃ A, toP (n : Int) = A := ⟨_, rfl⟩
  rw [hA] at HTP hf hd
  obtain ⟨M, hM⟩ : ∃ M, P.length = M := ⟨_, rfl⟩
  rw [hM] at hf c2' hj1 hc1 hlu
  have HF := Lib.hid (show ∀ q, Calls _ _ _ _ (fun e w' => e = .returned (.int .i64 (j : Int)) ∧ w' = _) from hf)
  have HBK := Lib.hid (heap_alloc_new w (.cells #[.int .i64 0, .int .i64 0, .int .i64 0, .slice none 0 0, .int .i64 0] 91))
  have HBL := Lib.hid (below_one w (.cells #[.int .i64 0, .int .i64 0, .int .i64 0, .slice none 0 0, .int .i64 0] 91))
  clear hf hA x hi hx1 hp hv hu A' hne ha hk ht hto hL hM hj hu1 hu2
  have hjl : decide ((j : Int) < 0) = false := decide_eq_false (by omega)
  go_enter Tryd.func61, Tryd.ntmps61
  go_wp2_with fail
  go_quiet ((first | (go_at_call 22; exact Calls.quiet_of_same (HTP.out _)) | (go_at_call 53; exact Calls.quiet_of_same (HF.out _))))
  go_wp2_with fail
  refine (HTP.out _).mono ?_
  rintro e w1 ⟨rfl, hw1⟩
  subst w1
  go_wp2_with fail
  have hb1 := ro_set (T := 91) (W0 := (w.alloc (.cells #[.int .i64 0, .int .i64 0, .int .i64 0, .slice none 0 0, .int .i64 0] 91)).drewN nq) HBK.out (.int .i64 at') (.int .i64 k') (.int .i64 t') (.slice ua L uc) (.int .i64 to')
  have hb2 := ro_below (Below.drewN' HBL.out nq) (Nat.le_refl _) (.int .i64 at') (.int .i64 k') (.int .i64 t') (.slice ua L uc) (.int .i64 to')
  generalize World.setCell (World.setCell (World.setCell (World.setCell (World.setCell _ _ _) _ _) _ _) _ _) _ _ = W4 at hb1 hb2 ⊢
  have f0 := blk_cell hb1 0
  have f1 := blk_cell hb1 1
  have f2 := blk_cell hb1 2
  have f3 := blk_cell hb1 3
  have f4 := blk_cell hb1 4
  exact bodyPost_ret (v := .tuple #[.agg #[.int .i64 at', .int .i64 k', .int .i64 t', .slice ua L uc, .int .i64 to'], .bool true]) (by simp [results, Tryd.results61, go_sem, f0, f1, f2, f3, f4]) rfl ⟨rfl, hb2⟩
end
end Go.Proofs.YtlakfnlkiebpdaaDoor
