/- The contracts of the reference's Lent and Kept: words in new memory with a mark behind them; they are as they were. Conditions: at most 1000 words. -/
import Derived.Laws.AppendOwnNone
import Derived.Test.YtladgbfmfhmpiaaDoorRefUnpack
namespace Go.Proofs.YtladgbfmfhmpiaaDoor
open Go Go.RowKit
/-- what Lent hands back: the words, with the mark 71 behind them in the same new row -/
def LentIs (n₀ : Nat) (zs : List Nat) (W : World) (v : Value) : Prop := ∃ g cap, v = .slice (some ⟨g, 0, none⟩) zs.length cap ∧ W.ownsRow n₀ 31 1 (.slice (some ⟨g, 0, none⟩) (zs.length + 1) cap) (zs.length + 1) (u64s (zs ++ [71]))
theorem u64s_71 (zs : List Nat) : u64s zs ++ [Value.int .u64 71] = u64s (zs ++ [71]) := by simp [u64s]
theorem own_le {W : World} {n₀ n g cap : Nat} {e : TypeId} {xs : List Value} (h : W.ownsRow n₀ e 1 (.slice (some ⟨g, 0, none⟩) n cap) n xs) : n ≤ cap ∧ cap ≤ 9223372036854775807 := by
  rcases h.2 with ⟨h1, _⟩ | ⟨g', cap', cur, h1, _, _, h2, h3, _⟩
  · cases h1
  · cases h1; exact ⟨h2, by simpa [maxLen] using h3⟩
theorem own_shape' {W : World} {n₀ n : Nat} {e : TypeId} {v : Value} {xs : List Value} (h : W.ownsRow n₀ e 1 v n xs) : ∃ a cap, v = .slice a n cap := by
  rcases h.2 with ⟨rfl, rfl⟩ | ⟨g, cap, cur, rfl, _⟩
  · exact ⟨none, 0, rfl⟩
  · exact ⟨_, _, rfl⟩
theorem own_cast {W : World} {n₀ n m : Nat} {e : TypeId} {a : Option Addr} {c : Nat} {xs ys : List Value} (h1 : n = m) (h2 : xs = ys) (h : W.ownsRow n₀ e 1 (.slice a n c) n xs) : W.ownsRow n₀ e 1 (.slice a m c) m ys := by subst h1; subst h2; exact h
theorem app_below0 {w wr w1 : World} {v : Value} {N : Nat} {e : TypeId} {xs : List Value} (hB : Below w.heap.size w wr) (hrow : wr.ownsRow w.heap.size e 1 v N xs) (hgrow : wr.grownBy w1 v.ownBlock) : Below w.heap.size w w1 := by
  refine hB.grown hgrow hB.size fun j ej => ?_
  rcases hrow.2 with ⟨rfl, _⟩ | ⟨g, cap, cur, rfl, hb, _, _⟩
  · simp [Value.ownBlock] at ej
  · obtain rfl : g = j := by simpa [Value.ownBlock] using ej
    exact hb
set_option maxHeartbeats 2000000 in
theorem lent_some (b off cap0 : Nat) (zs : List Nat) (hl : zs.length ≤ 1000) (w : World)
    (hc : ∀ j, j < zs.length → w.cell? ⟨b, off + j, none⟩ = some (.int .u64 (zs.getD j 0 : Nat))) :
    Calls Tryd.prog 47 #[.slice (some ⟨b, off, none⟩) zs.length cap0] w fun e w' => (∃ v, e = .returned v ∧ LentIs w.heap.size zs w' v) ∧ Below w.heap.size w w' := by
  obtain ⟨i0, hi, hz0, hz1, hz2⟩ := info_parts infoU64
  have hown0 : w.ownsRow w.heap.size 31 1 (.slice none 0 0) 0 [] := World.ownsRow_nil _ _ _ _
  have hnl : (u64s zs).length = zs.length := by simp [u64s]
  have hnews : ∀ j u, (u64s zs)[j]? = some u → w.cell? (Addr.add ⟨b, off, none⟩ j) = some u := by
    intro j u hu
    have hj : j < zs.length := by have := (List.getElem?_eq_some_iff.1 hu).1; simpa [u64s] using this
    have e2 : (Addr.add ⟨b, off, none⟩ j) = ⟨b, off + j, none⟩ := by
      by_cases h0 : j = 0
      · subst h0; rfl
      · simp [Addr.add, h0]
    rw [e2, hc j hj]
    simp [u64s, hj] at hu
    rw [← hu]; simp [List.getD, hj]
  have hone : ∀ u ∈ u64s zs, u.oneCell' = true := by
    intro u hu
    obtain ⟨z, _, rfl⟩ := List.mem_map.1 hu
    rfl
  have tok1 : True := trivial
  go_enter Tryd.func47, Tryd.ntmps47
  go_wp2_with (first
    | (at_builtin; have _t := tok1; refine wpList_append_own _ rfl _ _ 42 rfl w.heap.size 31 i0 (.int .u64 0) 1 8 Tryd.underlying42 hi hz0 hz1 hz2 rfl (by decide) _ _ _ rfl hown0 ⟨b, off, none⟩ zs.length cap0 (u64s zs) rfl (by omega) hnews hone (by unfold maxLen; omega) (by omega) (Nat.le_refl _) ?_; intro v1 w1 hown1 hgrow1 _; obtain ⟨a1, c1, rfl⟩ := own_shape' hown1; have HO1 := Lib.hid (own_cast (Nat.zero_add _) (List.nil_append _) hown1); have HB1 := Lib.hid (app_below0 (Below.refl _ w) hown0 hgrow1); clear tok1 _t hown1 hgrow1 hown0 hnews hone)
    | (at_builtin; refine wpList_append_own _ rfl _ _ 42 rfl w.heap.size 31 i0 (.int .u64 0) 1 8 Tryd.underlying42 hi hz0 hz1 hz2 rfl (by decide) _ _ _ rfl (HO1.out.alloc _) ⟨w1.heap.size, 0, none⟩ 1 1 [.int .u64 71] rfl rfl (cell_one_new _ _ _) (by simp [Value.oneCell']) (by unfold maxLen; omega) (by omega) (by have := HB1.out.size; simp; omega) ?_; intro v2 w2 hown2 hgrow2 _; obtain ⟨g2, c2, rfl⟩ := ownsRow_succ hown2; rw [u64s_71] at hown2; obtain ⟨hle2, hle3⟩ := own_le hown2; have HO2 := Lib.hid hown2; have HB2 := Lib.hid (app_below HB1.out HO1.out hgrow2); clear hown2 hgrow2))
  have hle4 : zs.length ≤ c2 := by omega
  go_ret
  exact ⟨⟨_, rfl, g2, c2, rfl, HO2.out⟩, HB2.out⟩
set_option maxHeartbeats 2000000 in
theorem lent_nil (w : World) :
    Calls Tryd.prog 47 #[.slice none 0 0] w fun e w' => (∃ v, e = .returned v ∧ LentIs w.heap.size [] w' v) ∧ Below w.heap.size w w' := by
  obtain ⟨i0, hi, hz0, hz1, hz2⟩ := info_parts infoU64
  have hown0 : w.ownsRow w.heap.size 31 1 (.slice none 0 0) 0 [] := World.ownsRow_nil _ _ _ _
  have HO1 := Lib.hid hown0
  have HB1 := Lib.hid (Below.refl w.heap.size w)
  have tok1 : True := trivial
  go_enter Tryd.func47, Tryd.ntmps47
  go_wp2_with (first
    | (at_builtin; have _t := tok1; refine wpList_append_own_none rfl _ _ 42 rfl w.heap.size 31 i0 1 Tryd.underlying42 hi _ 0 [] rfl hown0 rfl ?_; clear tok1 _t hown0)
    | (at_builtin; refine wpList_append_own _ rfl _ _ 42 rfl w.heap.size 31 i0 (.int .u64 0) 1 8 Tryd.underlying42 hi hz0 hz1 hz2 rfl (by decide) _ _ _ rfl (HO1.out.alloc _) ⟨w.heap.size, 0, none⟩ 1 1 [.int .u64 71] rfl rfl (cell_one_new _ _ _) (by simp [Value.oneCell']) (by unfold maxLen; omega) (by omega) (by simp) ?_; intro v2 w2 hown2 hgrow2 _; obtain ⟨g2, c2, rfl⟩ := ownsRow_succ hown2; obtain ⟨hle2, hle3⟩ := own_le hown2; have HO2 := Lib.hid (own_cast rfl (u64s_71 []) hown2); have HB2 := Lib.hid (app_below HB1.out HO1.out hgrow2); clear hown2 hgrow2))
  go_ret
  exact ⟨⟨_, rfl, g2, c2, rfl, HO2.out⟩, HB2.out⟩
theorem lent_any (v : Value) (zs : List Nat) (hl : zs.length ≤ 1000) (w : World) (hv : Words w.heap.size w v zs) :
    Calls Tryd.prog 47 #[v] w fun e w' => (∃ v, e = .returned v ∧ LentIs w.heap.size zs w' v) ∧ Below w.heap.size w w' := by
  rcases hv with ⟨rfl, rfl⟩ | ⟨b, off, cap, rfl, _, _, hc⟩
  · exact lent_nil w
  · exact lent_some b off cap zs hl w hc
theorem lent_words {n₀ : Nat} {zs : List Nat} {W : World} {v : Value} (h : LentIs n₀ zs W v) : Words W.heap.size W v zs := by
  obtain ⟨g, cap, rfl, hown⟩ := h
  have hl : (zs ++ [71]).length = zs.length + 1 := by simp
  right
  refine ⟨g, 0, cap, rfl, ?_, by have := own_le hown; omega, fun j hj => ?_⟩
  · rcases hown.2 with ⟨h1, _⟩ | ⟨g', cap', cur, h1, _, hg, _⟩
    · cases h1
    · cases h1; exact (Array.getElem?_eq_some_iff.1 hg).1
  · have h1 := (own_cell_frozen (j := j) hown hl (by omega)).1
    rw [Nat.zero_add, h1]
    simp [List.getD, List.getElem?_append_left hj]
theorem lent_below {n₀ : Nat} {zs : List Nat} {W W' : World} {v : Value} (h : LentIs n₀ zs W v) (hb : Below W.heap.size W W') : LentIs n₀ zs W' v := by
  obtain ⟨g, cap, rfl, hown⟩ := h
  exact ⟨g, cap, rfl, own_below hown hb⟩
set_option maxHeartbeats 2000000 in
/-- Kept: the words are as they were, and the mark stands behind them -/
theorem kept_any (n₀ : Nat) (v v0 : Value) (zs : List Nat) (hl : zs.length ≤ 1000) (w : World) (h : LentIs n₀ zs w v) (h0 : Words w.heap.size w v0 zs) :
    Calls Tryd.prog 53 #[v, v0] w fun e w' => e = .returned (.bool true) ∧ Below w.heap.size w w' := by
  have HL := Lib.hid h
  have HW := Lib.hid (lent_words h)
  have HW0 := Lib.hid h0
  obtain ⟨g, cap, rfl, hown⟩ := h
  obtain ⟨hle1, hle2⟩ := own_le hown
  have hl1 : (zs ++ [71]).length = zs.length + 1 := by simp
  have hcell := (own_cell_frozen (j := zs.length) hown hl1 (by omega)).1
  have e71 : (zs ++ [71]).getD zs.length 0 = 71 := by simp [List.getD]
  rw [e71] at hcell
  have hg : g < w.heap.size := by
    rcases hown.2 with ⟨h1, _⟩ | ⟨g', cap', cur, h1, _, hg, _⟩
    · cases h1
    · cases h1; exact (Array.getElem?_eq_some_iff.1 hg).1
  have HC := Lib.hid hcell
  obtain ⟨a0, c0, rfl⟩ := h0.shape
  clear hown h0 hl1 e71 hcell
  go_enter Tryd.func53, Tryd.ntmps53
  go_wp2_with fail
  refine (same_to' _ _ zs zs true (by simp) (by omega) _ HW.out HW0.out).mono ?_
  rintro e w1 ⟨rfl, hb⟩
  have hc1 : w1.cell? ⟨g, zs.length, none⟩ = some (.int .u64 ((71 : Nat) : Int)) := by rw [hb.cell (p := ⟨g, zs.length, none⟩) hg]; exact HC.out
  have HB := Lib.hid hb
  clear hb
  go_wp2_with fail
  go_ret
  exact ⟨rfl, HB.out⟩
end Go.Proofs.YtladgbfmfhmpiaaDoor
