/- Contracts of New, Store and Flip, object by object. Conditions: the memory lies as Mem says. -/
import Derived.Test.YtlakfnlkiebpdaaDoorMemS
import Derived.Test.YtlakfnlkiebpdaaDoorMemP
namespace Go.Proofs.YtlakfnlkiebpdaaDoor
open Go Go.RowKit
theorem new_bad (W : Int) (hW : W < 64 ∨ 65536 < W) (w : World) : Calls Tryd.prog 15 #[.int .i64 W] w fun e w' => e = .returned (.tuple #[.pointer none, .int .i64 1]) ∧ w' = w := by
  rcases hW with h | h
  · go_enter Tryd.func15, Tryd.ntmps15
    go_wp2
    go_ret2
    exact ⟨rfl, rfl⟩
  · have h' : ¬ W < 64 := by omega
    go_enter Tryd.func15, Tryd.ntmps15
    go_wp2
    go_ret2
    exact ⟨rfl, rfl⟩
def newObj (W : Nat) : Obj := .cells #[.int .i64 W, .int .i64 0, .slice none 0 0, .slice none 0 0, .slice none 0 0, .slice none 0 0] 80
theorem new_raw (W : Nat) (h0 : 64 ≤ W) (h1 : W ≤ 65536) (w : World) : Calls Tryd.prog 15 #[.int .i64 W] w fun e w' => e = .returned (.tuple #[.pointer (some ⟨w.heap.size, 0, none⟩), .int .i64 0]) ∧ w' = w.alloc (newObj W) := by
  go_enter Tryd.func15, Tryd.ntmps15
  go_wp2
  go_ret2
  exact ⟨rfl, rfl⟩
theorem rows_empty (r : Nat) : rowsOf 0 [] [] r = [] := by
  unfold rowsOf
  split <;> split <;> rfl
theorem new_mem (W : Nat) (w : World) : Mem (w.alloc (newObj W)) w.heap.size W 0 (fun _ => .slice none 0 0) [] [] := by
  have hb : (w.alloc (newObj W)).heap[w.heap.size]? = some (newObj W) := heap_alloc_new w _
  have hc : ∀ i, (w.alloc (newObj W)).cell? ⟨w.heap.size, i, none⟩ = (#[.int .i64 W, .int .i64 0, .slice none 0 0, .slice none 0 0, .slice none 0 0, .slice none 0 0] : Array Value)[i]? := fun i => by unfold World.cell?; rw [show ((⟨w.heap.size, i, none⟩ : Addr).block) = w.heap.size from rfl, hb]; rfl
  refine ⟨hc 0, hc 1, fun r hr => ?_, fun j => by unfold World.frozen?; rw [show ((⟨w.heap.size, j, none⟩ : Addr).block) = w.heap.size from rfl, hb]; simp [newObj], fun r _ => ?_, fun _ _ _ _ _ g hg => ?_, fun _ _ hg => ?_⟩
  · rw [hc]
    have : r = 0 ∨ r = 1 ∨ r = 2 ∨ r = 3 := by omega
    rcases this with rfl | rfl | rfl | rfl <;> rfl
  · rw [rows_empty]; exact World.ownsRow_nil _ _ _ _
  · cases hg
  · cases hg
theorem wf_new {W : Nat} (h0 : 64 ≤ W) (h1 : W ≤ 65536) : WF W 0 [] [] :=
  ⟨h0, h1, by decide, by simp [used], by simp [used], by simp, by simp, by simp [Fresh]⟩
section
variable {w : World} {b W h : Nat} {R : Nat → Value} {now old : List Ob}
/-- a field of an object in use is stored -/
def setF (now : List Ob) (j i x : Nat) : List Ob := match now[j]? with
  | some o => now.set j { o with ws := o.ws.set i x }
  | none => now
theorem setF_eq {j i x : Nat} {o : Ob} (ho : now[j]? = some o) : setF now j i x = now.set j { o with ws := o.ws.set i x } := by unfold setF; rw [ho]
theorem setF_sz {j i x : Nat} {o : Ob} (ho : now[j]? = some o) : sz (setF now j i x) = sz now := by
  rw [setF_eq ho]; exact sz_set ho (by simp)
theorem wf_set {j : Nat} {o o' : Ob} (z : WF W h now old) (ho : now[j]? = some o) (hl : o'.ws.length = o.ws.length) (hok : ObOk o') (hto : o'.to = 0) : WF W h (now.set j o') old := by
  refine ⟨z.w0, z.w1, z.hh, ?_, z.uo, fun x hx => ?_, z.oko, fun x hx => ?_⟩
  · rw [used_congr (sz_set ho hl)]; exact z.un
  · rcases List.mem_or_eq_of_mem_set hx with e | e
    · exact z.okn x e
    · rw [e]; exact hok
  · rcases List.mem_or_eq_of_mem_set hx with e | e
    · exact z.fresh x e
    · rw [e]; exact hto
theorem wf_setF {j i x : Nat} {o : Ob} (z : WF W h now old) (ho : now[j]? = some o) (hx : x < 18446744073709551616) : WF W h (setF now j i x) old := by
  have hm := List.mem_of_getElem? ho
  have hok := z.okn o hm
  rw [setF_eq ho]
  refine wf_set z ho (by simp) ⟨by simpa using hok.right, hok.to, fun y hy => ?_⟩ (z.fresh o hm)
  rcases List.mem_or_eq_of_mem_set hy with e | e
  · exact hok.word y e
  · omega
theorem store_hit (m : Mem w b W h R now old) (z : WF W h now old) (a : Int) (i x : Nat) (ha2 : a ≤ 9223372036854775807) {j : Nat} {o : Ob} (hi : idxAt now h W a = some j) (ho : now[j]? = some o) (hr : i < o.ws.length) :
    Calls Tryd.prog 43 #[.pointer (some ⟨b, 0, none⟩), .int .i64 a, .int .i64 i, .int .u64 x] w fun e w' => e = .returned (.int .i64 0) ∧ Mem w' b W h R (setF now j i x) old ∧ Fr (Own b R) w w' := by
  refine (store_raw m z a i x ha2 hi ho hr).mono ?_
  rintro e w' ⟨rfl, g, cap, n, hv, rfl⟩
  have hh := z.hh
  refine ⟨rfl, ?_, ((Fr.refl _ _).setCell (.inl (.inr ⟨h * 2, by omega, by rw [hv]; rfl⟩)) _).drewN n⟩
  have m2 := m.set_cell (r := h * 2) (j := start now j + 1 + i) (z := x) (by omega) hv
  refine (MemV.congr m2 fun r _ => ?_).drewN n
  rw [rows_cells, half_now, ← flat_set_field (x := x) ho hr, ← setF_eq ho]
  exact rows_upd_now (setF_sz ho) r
theorem own_zero {B : Nat} {e : TypeId} {a : Option Addr} {n cap : Nat} {xs : List Value} (ho : w.ownsRow B e 1 (.slice a n cap) n xs) : w.ownsRow B e 1 (.slice a 0 cap) 0 [] := by
  rcases ho.2 with ⟨hv, h0⟩ | ⟨g, cap', cur, hv, hb, hg, h1, h2, h3, _⟩
  · injection hv with ha _ hc
    subst ha hc
    exact World.ownsRow_nil _ _ _ _
  · injection hv with ha _ hc
    subst ha hc
    exact ⟨by simp, .inr ⟨g, cap, cur, rfl, hb, hg, Nat.zero_le _, h2, h3, by simp⟩⟩
set_option maxRecDepth 100000 in
set_option maxHeartbeats 2000000 in
theorem flip_raw_0 (a1 a2 : Option Addr) (n1 n2 k1 k2 : Nat) (c1 : w.cell? ⟨b, 1, none⟩ = some (.int .i64 0)) (c2 : w.cell? ⟨b, 4, none⟩ = some (.slice a1 n1 k1)) (c3 : w.cell? ⟨b, 5, none⟩ = some (.slice a2 n2 k2))
    (f1 : w.frozen? ⟨b, 1, none⟩ = false) (f2 : w.frozen? ⟨b, 4, none⟩ = false) (f3 : w.frozen? ⟨b, 5, none⟩ = false) :
    Calls Tryd.prog 69 #[.pointer (some ⟨b, 0, none⟩)] w fun e w' => e = .returned (.int .i64 0) ∧ ∃ n, w' = (((w.setCell ⟨b, 1, none⟩ (.int .i64 1)).setCell ⟨b, 4, none⟩ (.slice a1 0 k1)).setCell ⟨b, 5, none⟩ (.slice a2 0 k2)).drewN n := by
  cases a1 <;> cases a2
  all_goals
    go_enter Tryd.func69, Tryd.ntmps69
    go_wp2
    go_quiet (fail)
    go_wp2
    obtain ⟨W1, hW1⟩ : ∃ W1, (w.setCell ⟨b, 1, none⟩ (.int .i64 1)).drewN nq = W1 := ⟨_, rfl⟩
    have e2 : ∀ o v, o ≠ 1 → w.cell? ⟨b, o, none⟩ = some v → W1.cell? ⟨b, o, none⟩ = some v := fun o v ho hv => by
      rw [← hW1]; exact (World.cell?_setCell_other _ _ _ _ (by intro q; injection q with _ q2; exact ho q2.symm)).trans hv
    have e3 : ∀ o, w.frozen? ⟨b, o, none⟩ = false → W1.frozen? ⟨b, o, none⟩ = false := fun o hv => by
      rw [← hW1]; exact (World.frozen?_setCell _ _ _ _).trans hv
    have c2' := e2 _ _ (by decide) c2
    have c3' := e2 _ _ (by decide) c3
    have f2' := e3 _ f2
    have f3' := e3 _ f3
    rw [hW1]
    have HW := Lib.hid hW1
    clear hW1 e2 e3 c1 c2 c3 f1 f2 f3
    go_region
    all_goals
      go_wp2_with fail
      go_ret
      exact ⟨rfl, nq + 1, by rw [← HW.out]; rfl⟩
set_option maxRecDepth 100000 in
set_option maxHeartbeats 2000000 in
theorem flip_raw_1 (a1 a2 : Option Addr) (n1 n2 k1 k2 : Nat) (c1 : w.cell? ⟨b, 1, none⟩ = some (.int .i64 1)) (c2 : w.cell? ⟨b, 2, none⟩ = some (.slice a1 n1 k1)) (c3 : w.cell? ⟨b, 3, none⟩ = some (.slice a2 n2 k2))
    (f1 : w.frozen? ⟨b, 1, none⟩ = false) (f2 : w.frozen? ⟨b, 2, none⟩ = false) (f3 : w.frozen? ⟨b, 3, none⟩ = false) :
    Calls Tryd.prog 69 #[.pointer (some ⟨b, 0, none⟩)] w fun e w' => e = .returned (.int .i64 0) ∧ ∃ n, w' = (((w.setCell ⟨b, 1, none⟩ (.int .i64 0)).setCell ⟨b, 2, none⟩ (.slice a1 0 k1)).setCell ⟨b, 3, none⟩ (.slice a2 0 k2)).drewN n := by
  cases a1 <;> cases a2
  all_goals
    go_enter Tryd.func69, Tryd.ntmps69
    go_wp2
    go_quiet (fail)
    go_wp2
    obtain ⟨W1, hW1⟩ : ∃ W1, (w.setCell ⟨b, 1, none⟩ (.int .i64 0)).drewN nq = W1 := ⟨_, rfl⟩
    have e2 : ∀ o v, o ≠ 1 → w.cell? ⟨b, o, none⟩ = some v → W1.cell? ⟨b, o, none⟩ = some v := fun o v ho hv => by
      rw [← hW1]; exact (World.cell?_setCell_other _ _ _ _ (by intro q; injection q with _ q2; exact ho q2.symm)).trans hv
    have e3 : ∀ o, w.frozen? ⟨b, o, none⟩ = false → W1.frozen? ⟨b, o, none⟩ = false := fun o hv => by
      rw [← hW1]; exact (World.frozen?_setCell _ _ _ _).trans hv
    have c2' := e2 _ _ (by decide) c2
    have c3' := e2 _ _ (by decide) c3
    have f2' := e3 _ f2
    have f3' := e3 _ f3
    rw [hW1]
    have HW := Lib.hid hW1
    clear hW1 e2 e3 c1 c2 c3 f1 f2 f3
    go_region
    all_goals
      go_wp2_with fail
      go_ret
      exact ⟨rfl, nq + 1, by rw [← HW.out]; rfl⟩
theorem zero_blocks {a : Option Addr} {n cap g : Nat} (hg : (Value.slice a 0 cap).ownBlock = some g) : (Value.slice a n cap).ownBlock = some g := by
  cases a with
  | none => cases hg
  | some a => exact hg
theorem flip_any (m : Mem w b W h R now old) (z : WF W h now old) :
    Calls Tryd.prog 69 #[.pointer (some ⟨b, 0, none⟩)] w fun e w' => e = .returned (.int .i64 0) ∧ ∃ R', Mem w' b W (1 - h) R' [] now ∧ (∀ i, Own b R' i → Own b R i) ∧ Fr (Own b R) w w' := by
  have hh := z.hh
  obtain ⟨a1, k1, hv1, _, _⟩ := m.shape (r := (1 - h) * 2) (by omega)
  obtain ⟨a2, k2, hv2, _, _⟩ := m.shape (r := (1 - h) * 2 + 1) (by omega)
  have key : ∀ n, ∃ R', Mem ((((w.setCell ⟨b, 1, none⟩ (.int .i64 (1 - h : Nat))).setCell ⟨b, 2 + (1 - h) * 2, none⟩ (.slice a1 0 k1)).setCell ⟨b, 2 + ((1 - h) * 2 + 1), none⟩ (.slice a2 0 k2)).drewN n) b W (1 - h) R' [] now ∧ (∀ i, Own b R' i → Own b R i) ∧
      Fr (Own b R) w ((((w.setCell ⟨b, 1, none⟩ (.int .i64 (1 - h : Nat))).setCell ⟨b, 2 + (1 - h) * 2, none⟩ (.slice a1 0 k1)).setCell ⟨b, 2 + ((1 - h) * 2 + 1), none⟩ (.slice a2 0 k2)).drewN n) := fun n => by
    have m1 := m.set_half (1 - h)
    have o1 := m1.own ((1 - h) * 2) (by omega)
    rw [hv1] at o1
    have m2 := m1.set_row (r := (1 - h) * 2) (by omega) (v := .slice a1 0 k1) (l := []) (own_zero o1) (fun g hg => by
      have hg' := zero_blocks (n := (rowsOf h now old ((1 - h) * 2)).length) hg
      rw [← hv1] at hg'
      exact ⟨fun e => m.far _ (by omega) (e ▸ hg'), fun s hs hne hsg => m.sep _ _ (by omega) hs (fun q => hne q.symm) g hg' hsg⟩)
    have o2 := m2.own ((1 - h) * 2 + 1) (by omega)
    rw [upd_other _ _ (by omega), upd_other _ _ (by omega), hv2] at o2
    have m3 := m2.set_row (r := (1 - h) * 2 + 1) (by omega) (v := .slice a2 0 k2) (l := []) (own_zero o2) (fun g hg => by
      have hg' := zero_blocks (n := (rowsOf h now old ((1 - h) * 2 + 1)).length) hg
      rw [← hv2] at hg'
      refine ⟨fun e => m.far _ (by omega) (e ▸ hg'), fun s hs hne hsg => ?_⟩
      by_cases e : s = (1 - h) * 2
      · subst e
        rw [upd_same] at hsg
        have hsg' := zero_blocks (n := (rowsOf h now old ((1 - h) * 2)).length) hsg
        rw [← hv1] at hsg'
        exact m.sep _ _ (by omega) (by omega) (by omega) g hg' hsg'
      · rw [upd_other _ _ e] at hsg
        exact m.sep _ _ (by omega) hs (fun q => hne q.symm) g hg' hsg)
    refine ⟨_, (MemV.congr m3 fun r hr => ?_).drewN n, fun i hi => ?_, ((((Fr.refl _ _).setCell (.inl (.inl rfl)) _).setCell (.inl (.inl rfl)) _).setCell (.inl (.inl rfl)) _).drewN n⟩
    · unfold upd rowsOf
      by_cases e1 : r = (1 - h) * 2 + 1
      · subst e1
        rw [if_pos rfl, if_neg (by omega), if_pos (by omega)]; rfl
      · rw [if_neg e1]
        by_cases e2 : r = (1 - h) * 2
        · subst e2
          rw [if_pos rfl, if_pos (by omega), if_pos (by omega)]; rfl
        · rw [if_neg e2]
          have q1 : r / 2 = h := by omega
          have q2 : ¬ r / 2 = 1 - h := by omega
          rw [if_pos q1, if_neg q2]
    · rcases hi with rfl | ⟨r, hr, hg⟩
      · exact .inl rfl
      · by_cases e1 : r = (1 - h) * 2 + 1
        · subst e1
          rw [upd_same] at hg
          have hg' := zero_blocks (n := (rowsOf h now old ((1 - h) * 2 + 1)).length) hg
          rw [← hv2] at hg'
          exact .inr ⟨_, hr, hg'⟩
        · rw [upd_other _ _ e1] at hg
          by_cases e2 : r = (1 - h) * 2
          · subst e2
            rw [upd_same] at hg
            have hg' := zero_blocks (n := (rowsOf h now old ((1 - h) * 2)).length) hg
            rw [← hv1] at hg'
            exact .inr ⟨_, hr, hg'⟩
          · rw [upd_other _ _ e2] at hg
            exact .inr ⟨_, hr, hg⟩
  have hh' : h = 0 ∨ h = 1 := by omega
  have c2 := m.cr ((1 - h) * 2) (by omega)
  have c3 := m.cr ((1 - h) * 2 + 1) (by omega)
  have f2 := m.fz (2 + (1 - h) * 2)
  have f3 := m.fz (2 + ((1 - h) * 2 + 1))
  rw [hv1] at c2
  rw [hv2] at c3
  rcases hh' with rfl | rfl
  · refine (flip_raw_0 a1 a2 _ _ k1 k2 m.c1 c2 c3 (m.fz 1) f2 f3).mono ?_
    rintro e w' ⟨rfl, n, rfl⟩
    exact ⟨rfl, key n⟩
  · refine (flip_raw_1 a1 a2 _ _ k1 k2 m.c1 c2 c3 (m.fz 1) f2 f3).mono ?_
    rintro e w' ⟨rfl, n, rfl⟩
    exact ⟨rfl, key n⟩
theorem wf_flip (z : WF W h now old) : WF W (1 - h) [] now :=
  ⟨z.w0, z.w1, by omega, by simp [used], z.un, by simp, z.okn, by simp [Fresh]⟩
end
end Go.Proofs.YtlakfnlkiebpdaaDoor
