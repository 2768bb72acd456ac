/- The contract of Copy: a memory of its own, row by row. Conditions: the memory lies as MemV says. -/
import Derived.Test.YtjdhjehnofediaaMemClone
import Derived.Deep.RegionHeld3
import Derived.Deep.DrawnRows
namespace Go.Proofs.Ytjdhjehnofediaa
open Go Go.RowKit
attribute [local go_sem ↓] Go.wp_at_zero Go.wp_at_succ
theorem u64s_one (l : List Nat) : ∀ v ∈ u64s l, v.oneCell' = true := by
  intro v hv
  unfold u64s at hv
  obtain ⟨n, _, rfl⟩ := List.mem_map.1 hv
  rfl
theorem blk_set {W : World} {B : Nat} {cs : Array Value} {t : TypeId} (h : W.heap[B]? = some (.cells cs t (0, 0))) (j : Nat) (v : Value) : (W.setCell ⟨B, j, none⟩ v).heap[B]? = some (.cells (cs.setIfInBounds j v) t (0, 0)) := by
  obtain ⟨hlt, hk⟩ := Array.getElem?_eq_some_iff.1 h
  show (W.heap.modify B _)[B]? = _
  rw [Array.getElem?_eq_getElem (by rw [Array.size_modify]; exact hlt), Array.getElem_modify_self, hk]
  rfl
theorem blk_cell {W : World} {B : Nat} {cs : Array Value} {t : TypeId} (h : W.heap[B]? = some (.cells cs t (0, 0))) (j : Nat) : W.cell? ⟨B, j, none⟩ = cs[j]? := by
  simp [World.cell?, h]
theorem blk_free {W : World} {B : Nat} {cs : Array Value} {t : TypeId} (h : W.heap[B]? = some (.cells cs t (0, 0))) (j : Nat) : W.frozen? ⟨B, j, none⟩ = false := by
  simp [World.frozen?, h]
/-- a copy of a memory whose first k halves are laid anew -/
structure CP (w : World) (W h : Nat) (R : Nat → Value) (L : Nat → List Nat) (k : Nat) (V : Nat → Value) (wr : World) : Prop where
  blk : wr.heap[w.heap.size]? = some (.cells #[.int .i64 W, .int .i64 h, V 0, V 1, V 2, V 3] 97 (0, 0))
  base : Below w.heap.size w wr
  old : ∀ r, 2 * k ≤ r → V r = R r
  own : ∀ r, r < 2 * k → wr.ownsRow (w.heap.size + 1) 56 1 (V r) (L r).length (u64s (L r))
  sep : ∀ r s, r < 2 * k → s < 2 * k → r ≠ s → ∀ g, (V r).ownBlock = some g → (V s).ownBlock ≠ some g
theorem own_mono {w : World} {B B' n : Nat} {e : TypeId} {v : Value} {xs : List Value} (h : w.ownsRow B e 1 v n xs) (hb : B' ≤ B) : w.ownsRow B' e 1 v n xs := by
  refine ⟨h.1, ?_⟩
  rcases h.2 with h0 | ⟨g, cap, cur, h1, h2, rest⟩
  · exact .inl h0
  · exact .inr ⟨g, cap, cur, h1, Nat.le_trans hb h2, rest⟩
theorem own_below {w w' : World} {B n : Nat} {e : TypeId} {v : Value} {xs : List Value} (h : w.ownsRow B e 1 v n xs) (hb : Below w.heap.size w w') : w'.ownsRow B e 1 v n xs :=
  (Fr.of_below (O := fun _ => False) hb).own h (fun _ _ => id)
theorem own_set {w : World} {B n c j : Nat} {e : TypeId} {v u : Value} {xs : List Value} (h : w.ownsRow B e 1 v n xs) (hc : c < B) : (w.setCell ⟨c, j, none⟩ u).ownsRow B e 1 v n xs :=
  ((Fr.refl (· = c) w).setCell (p := ⟨c, j, none⟩) (.inl rfl) u).own h (fun g hg e => by have := (h.lt g hg).1; omega)
theorem cp_step {w wr wa wb : World} {W h k : Nat} {R V : Nat → Value} {L : Nat → List Nat} (c : CP w W h R L k V wr) (hk : k < 2) (hb1 : Below wr.heap.size wr wa) (hb2 : Below wa.heap.size wa wb) {va vb : Value} {Ba Bb : Nat} (hBa : wr.heap.size ≤ Ba) (hBb : wa.heap.size ≤ Bb)
    (oa : wa.ownsRow Ba 56 1 va (L (2 * k)).length (u64s (L (2 * k)))) (ob : wb.ownsRow Bb 56 1 vb (L (2 * k + 1)).length (u64s (L (2 * k + 1)))) :
    CP w W h R L (k + 1) (upd (upd V (2 * k) va) (2 * k + 1) vb) ((wb.setCell ⟨w.heap.size, 2 + 2 * k, none⟩ va).setCell ⟨w.heap.size, 3 + 2 * k, none⟩ vb) := by
  have hlt : w.heap.size < wr.heap.size := (Array.getElem?_eq_some_iff.1 c.blk).1
  have hba := hb1.trans (hb2.mono hb1.size)
  have hblk : wb.heap[w.heap.size]? = _ := (hba.block _ hlt).trans c.blk
  refine ⟨?_, ((c.base.trans (hba.mono c.base.size)).setCell (p := ⟨w.heap.size, _, none⟩) (Nat.le_refl _) _).setCell (p := ⟨w.heap.size, _, none⟩) (Nat.le_refl _) _, fun r hr => ?_, fun r hr => ?_, fun r s hr hs hne g hg hg2 => ?_⟩
  · have h2 := blk_set (blk_set hblk (2 + 2 * k) va) (3 + 2 * k) vb
    have hk' : k = 0 ∨ k = 1 := by omega
    rcases hk' with rfl | rfl
    · exact h2
    · exact h2
  · rw [upd_other _ _ (by omega), upd_other _ _ (by omega)]; exact c.old r (by omega)
  · refine own_set (own_set ?_ (Nat.lt_succ_self _)) (Nat.lt_succ_self _)
    by_cases e : r = 2 * k + 1
    · subst e; rw [upd_same]; exact own_mono ob (by have := hb1.size; omega)
    · rw [upd_other _ _ e]
      by_cases e2 : r = 2 * k
      · subst e2; rw [upd_same]; exact own_below (own_mono oa (by omega)) hb2
      · rw [upd_other _ _ e2]; exact own_below (c.own r (by omega)) hba
  · have ho : ∀ r, r < 2 * k → ∀ g, (V r).ownBlock = some g → g < wr.heap.size := fun r hr g hg => ((c.own r hr).lt g hg).2
    have h1 := hb1.size
    by_cases e : r = 2 * k + 1
    · subst e
      rw [upd_same] at hg
      have l1 := (ob.lt g hg).1
      rw [upd_other _ _ (fun q => hne q.symm)] at hg2
      by_cases e2 : s = 2 * k
      · subst e2; rw [upd_same] at hg2
        have l2 := (oa.lt g hg2).2; omega
      · rw [upd_other _ _ e2] at hg2
        have := ho s (by omega) g hg2; omega
    · rw [upd_other _ _ e] at hg
      by_cases e2 : r = 2 * k
      · subst e2; rw [upd_same] at hg
        have l1 := oa.lt g hg
        by_cases e3 : s = 2 * k + 1
        · subst e3; rw [upd_same] at hg2
          have l2 := (ob.lt g hg2).1; omega
        · rw [upd_other _ _ e3, upd_other _ _ (fun q => hne q.symm)] at hg2
          have := ho s (by omega) g hg2; omega
      · rw [upd_other _ _ e2] at hg
        have l1 := ho r (by omega) g hg
        by_cases e3 : s = 2 * k + 1
        · subst e3; rw [upd_same] at hg2
          have l2 := (ob.lt g hg2).1; omega
        · rw [upd_other _ _ e3] at hg2
          by_cases e4 : s = 2 * k
          · subst e4; rw [upd_same] at hg2
            have l2 := (oa.lt g hg2).1; omega
          · rw [upd_other _ _ e4] at hg2
            exact c.sep r s (by omega) (by omega) hne g hg hg2
/-- a copy whose halves are both laid anew is a memory of its own -/
theorem CP.mem {w wr : World} {W h : Nat} {R V : Nat → Value} {L : Nat → List Nat} (c : CP w W h R L 2 V wr) : MemV wr w.heap.size W h V L := by
  refine ⟨blk_cell c.blk 0, blk_cell c.blk 1, fun r hr => ?_, blk_free c.blk, fun r hr => own_mono (c.own r (by omega)) (Nat.zero_le _), fun r s hr hs => c.sep r s (by omega) (by omega), fun r hr hg => ?_⟩
  · rw [blk_cell c.blk]
    have : r = 0 ∨ r = 1 ∨ r = 2 ∨ r = 3 := by omega
    rcases this with rfl | rfl | rfl | rfl <;> rfl
  · have := ((c.own r (by omega)).lt _ hg).1; omega
theorem CP.sub {w wr : World} {W h : Nat} {R V : Nat → Value} {L : Nat → List Nat} (c : CP w W h R L 2 V wr) : ∀ i, Own w.heap.size V i → w.heap.size ≤ i := by
  rintro i (rfl | ⟨r, hr, hg⟩)
  · exact Nat.le_refl _
  · have := ((c.own r (by omega)).lt _ hg).1; omega
/-- a row of the memory that is copied is cloned -/
theorem clone_row {w W1 : World} {v : Value} {l : List Nat} {n : Nat} (hb : Below w.heap.size w W1) (ho : w.ownsRow 0 56 1 v n (u64s l)) (hn : n ≤ 65536) :
    Calls Try.prog 64 #[v] W1 fun e w' => (∃ a c, e = .returned (.slice a n c) ∧ w'.ownsRow W1.heap.size 56 1 (.slice a n c) n (u64s l)) ∧ Below W1.heap.size W1 w' := by
  refine (clone_any (own_below ho hb) (u64s_one l) (by omega)).mono ?_
  rintro e w' ⟨⟨v', rfl, h⟩, h2⟩
  rcases h.2 with ⟨rfl, rfl⟩ | ⟨g, cap, cur, rfl, _⟩
  · exact ⟨⟨_, _, rfl, h⟩, h2⟩
  · exact ⟨⟨_, _, rfl, h⟩, h2⟩
def cellAt (W1 : World) (c j : Nat) : Value := (W1.cell? ⟨c, j, none⟩).getD undef
/-- nothing but the block c, whose six cells lie there, has turned -/
structure KN (w1 : World) (c : Nat) (W1 : World) : Prop where
  fr : Fr (· = c) w1 W1
  blk : ∃ cs, W1.heap[c]? = some (.cells cs 97 (0, 0)) ∧ cs.size = 6
theorem KN.below {w1 W1 W2 : World} {c : Nat} (k : KN w1 c W1) (h : Below W1.heap.size W1 W2) : KN w1 c W2 := by
  obtain ⟨cs, h1, h2⟩ := k.blk
  exact ⟨k.fr.trans (Fr.of_below (O := fun _ => False) h) (fun _ => False.elim), cs, (h.block c (Array.getElem?_eq_some_iff.1 h1).1).trans h1, h2⟩
theorem KN.drew {w1 W1 : World} {c : Nat} (k : KN w1 c W1) : KN w1 c W1.drew := k.below (Below.refl _ W1).drew
theorem KN.set {w1 W1 : World} {c : Nat} (k : KN w1 c W1) (j : Nat) (v : Value) : KN w1 c (W1.setCell ⟨c, j, none⟩ v) := by
  obtain ⟨cs, h1, h2⟩ := k.blk
  exact ⟨k.fr.setCell (p := ⟨c, j, none⟩) (.inl rfl) v, _, blk_set h1 j v, by simpa using h2⟩
theorem kn_s {w1 W1 : World} {g c j : Nat} {x y : Value} (hne : g ≠ c) (hj : j < 5) (hg0 : w1.cell? ⟨g, 0, none⟩ = some x) (hg1 : w1.cell? ⟨g, 1, none⟩ = some y) (h : KN w1 c W1) :
    W1.cell? ⟨g, 0, none⟩ = some x ∧ W1.cell? ⟨g, 1, none⟩ = some y ∧ W1.cell? ⟨c, j, none⟩ = some (cellAt W1 c j) ∧ W1.cell? ⟨c, j + 1, none⟩ = some (cellAt W1 c (j + 1)) ∧ W1.frozen? ⟨c, j, none⟩ = false ∧ W1.frozen? ⟨c, j + 1, none⟩ = false ∧ KN w1 c W1 := by
  obtain ⟨cs, h1, h2⟩ := h.blk
  have k : ∀ i, i < 6 → W1.cell? ⟨c, i, none⟩ = some (cellAt W1 c i) := fun i hi => by
    unfold cellAt
    rw [blk_cell h1, Array.getElem?_eq_getElem (by omega)]; rfl
  exact ⟨h.fr.cell_some hg0 hne, h.fr.cell_some hg1 hne, k _ (by omega), k _ (by omega), blk_free h1 _, blk_free h1 _, h⟩
theorem kn_of {p q r s t u : Prop} {a b : World} {c : Nat} (h : p ∧ q ∧ r ∧ s ∧ t ∧ u ∧ KN a c b) : KN a c b := h.2.2.2.2.2.2
/-- what a row of the memory that is copied is, where but the copy has turned -/
theorem clone_kn {w w1 W1 : World} {v : Value} {l : List Nat} {n : Nat} (hb : Below w.heap.size w w1) (k : KN w1 w.heap.size W1) (ho : w.ownsRow 0 56 1 v n (u64s l)) (hn : n ≤ 65536) :
    Calls Try.prog 64 #[v] W1 fun e w' => (∃ a c, e = .returned (.slice a n c) ∧ w'.ownsRow W1.heap.size 56 1 (.slice a n c) n (u64s l)) ∧ Below W1.heap.size W1 w' :=
  clone_row (hb.trans (k.fr.below hb.size (fun i hi => Nat.le_of_eq (by subst hi; rfl)))) ho hn
section
variable {w : World} {b W h : Nat} {R : Nat → Value} {L : Nat → List Nat}
set_option maxRecDepth 100000 in
set_option maxHeartbeats 4000000 in
theorem copy_raw (m : MemV w b W h R L) (z : Sizes W h L) : Calls Try.prog 30 #[.pointer (some ⟨b, 0, none⟩)] w fun e w' => e = .returned (.pointer (some ⟨w.heap.size, 0, none⟩)) ∧ ∃ V, CP w W h R L 2 V w' := by
  have hbl := m.lt
  have c0 := m.c0
  have c1 := m.c1
  have r0 : w.cell? ⟨b, 2, none⟩ = some (R 0) := m.cr 0 (by decide)
  have r1 : w.cell? ⟨b, 3, none⟩ = some (R 1) := m.cr 1 (by decide)
  have r2 : w.cell? ⟨b, 4, none⟩ = some (R 2) := m.cr 2 (by decide)
  have r3 : w.cell? ⟨b, 5, none⟩ = some (R 3) := m.cr 3 (by decide)
  obtain ⟨a0, k0, v0, _⟩ := m.shape (r := 0) (by decide)
  obtain ⟨a1, k1, v1, _⟩ := m.shape (r := 1) (by decide)
  obtain ⟨a2, k2, v2, _⟩ := m.shape (r := 2) (by decide)
  obtain ⟨a3, k3, v3, _⟩ := m.shape (r := 3) (by decide)
  have o0 := m.own 0 (by decide)
  have o1 := m.own 1 (by decide)
  have o2 := m.own 2 (by decide)
  have o3 := m.own 3 (by decide)
  have l0 := z.len 0 (by decide)
  have l1 := z.len 1 (by decide)
  have l2 := z.len 2 (by decide)
  have l3 := z.len 3 (by decide)
  obtain ⟨n0, hn0⟩ : ∃ n, (L 0).length = n := ⟨_, rfl⟩
  obtain ⟨n1, hn1⟩ : ∃ n, (L 1).length = n := ⟨_, rfl⟩
  obtain ⟨n2, hn2⟩ : ∃ n, (L 2).length = n := ⟨_, rfl⟩
  obtain ⟨n3, hn3⟩ : ∃ n, (L 3).length = n := ⟨_, rfl⟩
  rw [hn0] at v0 o0 l0
  rw [hn1] at v1 o1 l1
  rw [hn2] at v2 o2 l2
  rw [hn3] at v3 o3 l3
  rw [v0] at r0 o0
  rw [v1] at r1 o1
  rw [v2] at r2 o2
  rw [v3] at r3 o3
  have H0 := Lib.hid (And.intro hn0 v0)
  have H1 := Lib.hid (And.intro hn1 v1)
  have H2 := Lib.hid (And.intro hn2 v2)
  have H3 := Lib.hid (And.intro hn3 v3)
  have O0 := Lib.hid (And.intro o0 l0)
  have O1 := Lib.hid (And.intro o1 l1)
  have O2 := Lib.hid (And.intro o2 l2)
  have O3 := Lib.hid (And.intro o3 l3)
  have ix0 : ∀ (x y p q : Value) (W1 : World), (Instr.index 95 (.agg #[x, y, p, q]) (.int .i64 0)).run Try.prog W1 = .ok (.agg #[x, y]) W1 := fun x y p q W1 => by kernel_rfl
  have ix1 : ∀ (x y p q : Value) (W1 : World), (Instr.index 95 (.agg #[x, y, p, q]) (.int .i64 1)).run Try.prog W1 = .ok (.agg #[p, q]) W1 := fun x y p q W1 => by kernel_rfl
  clear m z hn0 hn1 hn2 hn3 v0 v1 v2 v3 o0 o1 o2 o3 l0 l1 l2 l3
  go_enter Try.func30, Try.ntmps30
  go_wp2_with fail
  have HS : Hid (CP w W h R L 0 R (w.alloc (.cells #[.int .i64 W, .int .i64 h, .slice a0 n0 k0, .slice a1 n1 k1, .slice a2 n2 k2, .slice a3 n3 k3] 97))) := by
    refine ⟨?_, (Below.refl _ _).alloc (Nat.le_refl _) _, fun _ _ => rfl, fun r hr => by omega, fun r s hr => by omega⟩
    rw [heap_alloc_new, H0.out.2, H1.out.2, H2.out.2, H3.out.2]
  go_loopw [15] (fun i wr => ∃ (k : Nat) (V : Nat → Value), k ≤ 2 ∧ i = .int .i64 k ∧ CP w W h R L k V wr) (fun i _ => 2 - (intOf i).toNat)
  case atStart => exact ⟨0, R, Nat.zero_le _, rfl, HS.out⟩
  case round =>
    obtain ⟨k, V, hk, rfl, hc⟩ := hrel
    clear HS c0 c1 r0 r1 r2 r3
    have hk' : k = 0 ∨ k = 1 ∨ k = 2 := by omega
    rcases hk' with rfl | rfl | rfl
    · have HC := Lib.hid hc
      have hblk := hc.blk
      have hol := hc.old
      rw [hol 0 (by omega), hol 1 (by omega), hol 2 (by omega), hol 3 (by omega), H0.out.2, H1.out.2, H2.out.2, H3.out.2] at hblk
      clear hc hol
      go_wp2_with fail
      obtain ⟨w1, hw1⟩ : ∃ w1, wr.alloc (.cells #[.slice a0 n0 k0, .slice a1 n1 k1] 94) = w1 := ⟨_, rfl⟩
      have hb1 : Below wr.heap.size wr w1 := by rw [← hw1]; exact (Below.refl _ _).alloc (Nat.le_refl _) _
      have hg := heap_alloc_new wr (.cells #[.slice a0 n0 k0, .slice a1 n1 k1] 94)
      rw [hw1] at hg
      have hcb := (hb1.block w.heap.size (Array.getElem?_eq_some_iff.1 hblk).1).trans hblk
      have hd0 := (KN.mk (Fr.refl _ w1) ⟨_, hcb, rfl⟩).drew
      have HBW := Lib.hid (HC.out.base.trans (hb1.mono HC.out.base.size))
      have HB1 := Lib.hid hb1
      have G0 := Lib.hid (blk_cell hg 0)
      have G1 := Lib.hid (blk_cell hg 1)
      have NE := Lib.hid (show wr.heap.size ≠ w.heap.size from fun e => by have := (Array.getElem?_eq_some_iff.1 hblk).1; omega)
      have HD := Lib.hid (hb1.size)
      rw [hw1]
      clear hw1 hblk hg hcb hb1
      go_region_held3 (fun W' => W'.cell? ⟨wr.heap.size, 0, none⟩ = some (.slice a0 n0 k0) ∧ W'.cell? ⟨wr.heap.size, 1, none⟩ = some (.slice a1 n1 k1) ∧ W'.cell? ⟨w.heap.size, 2, none⟩ = some (cellAt W' w.heap.size 2) ∧ W'.cell? ⟨w.heap.size, 3, none⟩ = some (cellAt W' w.heap.size 3) ∧ W'.frozen? ⟨w.heap.size, 2, none⟩ = false ∧ W'.frozen? ⟨w.heap.size, 3, none⟩ = false ∧ KN w1 w.heap.size W')
        (first | assumption | exact kn_s (j := 2) NE.out (by decide) G0.out G1.out (by assumption) | exact kn_s (j := 2) NE.out (by decide) G0.out G1.out (KN.set (KN.set (kn_of (by assumption)) _ _) _ _))
        (first
          | (go_at_call 64; refine (clone_kn HBW.out (kn_of (by assumption)) O0.out.1 O0.out.2).mono ?_; rintro e wa ⟨⟨aa, ka, rfl, oa⟩, ba⟩; have hya := KN.below (kn_of (by assumption)) ba)
          | (go_at_call 64; refine (clone_kn HBW.out (kn_of (by assumption)) O1.out.1 O1.out.2).mono ?_; rintro e wb ⟨⟨ab, kb, rfl, ob⟩, bb⟩; have hyb := KN.below (kn_of (by assumption)) bb))
      go_wp2_with fail
      go_roundw
      case rel => exact ⟨1, _, by omega, by go_num, cp_step HC.out (by decide) (HB1.out.trans ((Below.refl _ w1).drew.trans ba |>.mono HD.out)) bb HD.out (Nat.le_refl _) (by rw [show 2 * 0 = 0 from rfl, H0.out.1]; exact oa) (by rw [show 2 * 0 + 1 = 1 from rfl, H1.out.1]; exact ob)⟩
      case measure => simp [intOf]
    · have HC := Lib.hid hc
      have hblk := hc.blk
      have hol := hc.old
      rw [hol 2 (by omega), hol 3 (by omega), H2.out.2, H3.out.2] at hblk
      clear hc hol
      go_wp2_with fail
      obtain ⟨w1, hw1⟩ : ∃ w1, wr.alloc (.cells #[.slice a2 n2 k2, .slice a3 n3 k3] 94) = w1 := ⟨_, rfl⟩
      have hb1 : Below wr.heap.size wr w1 := by rw [← hw1]; exact (Below.refl _ _).alloc (Nat.le_refl _) _
      have hg := heap_alloc_new wr (.cells #[.slice a2 n2 k2, .slice a3 n3 k3] 94)
      rw [hw1] at hg
      have hcb := (hb1.block w.heap.size (Array.getElem?_eq_some_iff.1 hblk).1).trans hblk
      have hd0 := (KN.mk (Fr.refl _ w1) ⟨_, hcb, rfl⟩).drew
      have HBW := Lib.hid (HC.out.base.trans (hb1.mono HC.out.base.size))
      have HB1 := Lib.hid hb1
      have G0 := Lib.hid (blk_cell hg 0)
      have G1 := Lib.hid (blk_cell hg 1)
      have NE := Lib.hid (show wr.heap.size ≠ w.heap.size from fun e => by have := (Array.getElem?_eq_some_iff.1 hblk).1; omega)
      have HD := Lib.hid (hb1.size)
      rw [hw1]
      clear hw1 hblk hg hcb hb1
      go_region_held3 (fun W' => W'.cell? ⟨wr.heap.size, 0, none⟩ = some (.slice a2 n2 k2) ∧ W'.cell? ⟨wr.heap.size, 1, none⟩ = some (.slice a3 n3 k3) ∧ W'.cell? ⟨w.heap.size, 4, none⟩ = some (cellAt W' w.heap.size 4) ∧ W'.cell? ⟨w.heap.size, 5, none⟩ = some (cellAt W' w.heap.size 5) ∧ W'.frozen? ⟨w.heap.size, 4, none⟩ = false ∧ W'.frozen? ⟨w.heap.size, 5, none⟩ = false ∧ KN w1 w.heap.size W')
        (first | assumption | exact kn_s (j := 4) NE.out (by decide) G0.out G1.out (by assumption) | exact kn_s (j := 4) NE.out (by decide) G0.out G1.out (KN.set (KN.set (kn_of (by assumption)) _ _) _ _))
        (first
          | (go_at_call 64; refine (clone_kn HBW.out (kn_of (by assumption)) O2.out.1 O2.out.2).mono ?_; rintro e wa ⟨⟨aa, ka, rfl, oa⟩, ba⟩; have hya := KN.below (kn_of (by assumption)) ba)
          | (go_at_call 64; refine (clone_kn HBW.out (kn_of (by assumption)) O3.out.1 O3.out.2).mono ?_; rintro e wb ⟨⟨ab, kb, rfl, ob⟩, bb⟩; have hyb := KN.below (kn_of (by assumption)) bb))
      go_wp2_with fail
      go_roundw
      case rel => exact ⟨2, _, by omega, by go_num, cp_step HC.out (by decide) (HB1.out.trans ((Below.refl _ w1).drew.trans ba |>.mono HD.out)) bb HD.out (Nat.le_refl _) (by rw [show 2 * 1 = 2 from rfl, H2.out.1]; exact oa) (by rw [show 2 * 1 + 1 = 3 from rfl, H3.out.1]; exact ob)⟩
      case measure => simp [intOf]
    · have HC := Lib.hid hc
      clear hc
      go_wp2_with fail
      go_ret
      exact ⟨rfl, V, HC.out⟩
theorem copy_any (m : MemV w b W h R L) (z : Sizes W h L) : Calls Try.prog 30 #[.pointer (some ⟨b, 0, none⟩)] w fun e w' => e = .returned (.pointer (some ⟨w.heap.size, 0, none⟩)) ∧ ∃ V, MemV w' w.heap.size W h V L ∧ (∀ i, Own w.heap.size V i → w.heap.size ≤ i) ∧ Below w.heap.size w w' := by
  refine (copy_raw m z).mono ?_
  rintro e w' ⟨rfl, V, c⟩
  exact ⟨rfl, V, c.mem, c.sub, c.base⟩
end
end Go.Proofs.Ytjdhjehnofediaa
