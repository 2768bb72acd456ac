/- The contract of slices.Grow for words: the same words, there or anew. Condition: at most a hundred thousand words in all. -/
import Derived.Test.YtlakfnlkiebpdaaDoorMemK
import Derived.Shelf.Spec.SlicesGrow
namespace Go.Proofs.YtlakfnlkiebpdaaDoor
open Go Go.RowKit Go.Shelf Go.Lib
def growRen : Go.Shelf.Ren := ⟨fun | 4 => 82 | n => n, fun | 0 => 0 | 3 => 3 | 4 => 4 | 9 => 9 | 20 => 20 | 22 => 43 | 25 => 33 | n => n, fun | n => n⟩
theorem growLays : Go.Proofs.Lays8.n4 Tryd.prog growRen := {
  mixed := by kernel_rfl
  f4 := ⟨Tryd.f82.name, by decide, Tryd.func82.trans (congrArg some (by kernel_rfl))⟩
  t0 := Tryd.underlying0
  a0 := Tryd.isAgg0
  z0 := Tryd.sizeOf0
  v0 := Tryd.zeroValue0
  t3 := Tryd.underlying3
  a3 := Tryd.isAgg3
  z3 := Tryd.sizeOf3
  v3 := Tryd.zeroValue3
  t4 := Tryd.underlying4
  a4 := Tryd.isAgg4
  z4 := Tryd.sizeOf4
  v4 := Tryd.zeroValue4
  t9 := Tryd.underlying9
  a9 := Tryd.isAgg9
  z9 := Tryd.sizeOf9
  v9 := Tryd.zeroValue9
  t20 := Tryd.underlying20
  a20 := Tryd.isAgg20
  z20 := Tryd.sizeOf20
  v20 := Tryd.zeroValue20
  t22 := Tryd.underlying43
  a22 := Tryd.isAgg43
  z22 := Tryd.sizeOf43
  v22 := Tryd.zeroValue43 }
theorem size_zc (z : Value) (n : Nat) (h : z.cells.size = 1) : (Builtin.zeroCells z.cells n).size = n := by
  rw [size_zeroCells, h, Nat.mul_one]
theorem grow_any {w : World} {v : Value} {n k : Nat} {xs : List Value} (hown : w.ownsRow 0 33 1 v n xs) (hk : 1 ≤ k) (hk2 : n + k ≤ 1000000) :
    Calls Tryd.prog 82 #[v, .int .i64 k] w fun e w' => (∃ v', e = .returned v' ∧ w'.ownsRow 0 33 1 v' n xs ∧ ∀ g, v'.ownBlock = some g → v.ownBlock = some g ∨ w.heap.size ≤ g) ∧ Fr (fun _ => False) w w' := by
  obtain ⟨i0, hi, hz0, hz1, hz2⟩ := info_parts infoU64
  have grown : ∀ (a : Option Addr) (c : Nat) (cs : List Value), n ≤ c → c < n + k → cs.length = c → cs.take n = xs → (a = none → c = 0) → (∀ x, a = some x → ∀ j u, cs[j]? = some u → w.cell? (x.add j) = some u) →
      Calls Tryd.prog 82 #[.slice a n c, .int .i64 k] w fun e w' => (∃ v', e = .returned v' ∧ w'.ownsRow 0 33 1 v' n xs ∧ ∀ g, v'.ownBlock = some g → (Value.slice a n c).ownBlock = some g ∨ w.heap.size ≤ g) ∧ Fr (fun _ => False) w w' := by
    intro a c cs h1 h2 h3 h4 h5 h6
    have h := Any8.slices_Grow_grow growLays i0 (.int .u64 0) hi hz0 (by rw [hz1]; decide) a n c k cs w h1 h2 (by rw [hz2]; omega) (by omega) (by rw [hz1, h3, Nat.mul_one]) h5 h6
    refine Calls.mono h ?_
    rintro e w' ⟨rfl, rfl⟩
    have hG1 := grownCap_ge w (n + k) c 33
    have hG2 := grownCap_le_maxLen w (n + k) c 33 (by unfold maxLen; omega)
    refine ⟨⟨_, rfl, ⟨by rw [← h4, List.length_take]; omega, .inr ⟨w.heap.size, _, _, rfl, Nat.zero_le _, heap_alloc_new w.drew _, ?_, hG2, ?_, ?_⟩⟩, fun g hg => .inr ?_⟩, ((Fr.refl _ w).drew).alloc _⟩
    · exact Nat.le_trans (by omega) hG1
    · simp only [Array.size_append, List.size_toArray, size_zc (.int .u64 0) _ rfl, h3]
      show c + (n + k - c) + (grownCap w (n + k) c 33 - (n + k)) = grownCap w (n + k) c 33 * 1
      omega
    · rw [Nat.mul_one, Array.toList_append, Array.toList_append, List.append_assoc, List.take_append_of_le_length (by simp; omega)]
      exact h4
    · have : w.heap.size = g := by simpa [Value.ownBlock] using hg
      omega
  rcases hown.2 with ⟨rfl, rfl⟩ | ⟨g, cap, cur, rfl, hb, hg, h1, h2, h3, h4⟩
  · have hxs : xs = [] := List.eq_nil_of_length_eq_zero (by simpa using hown.1)
    subst hxs
    exact grown none 0 [] (Nat.le_refl _) (by omega) rfl rfl (fun _ => rfl) (fun _ h => by cases h)
  · by_cases hr : n + k ≤ cap
    · refine Calls.mono (Any8.slices_Grow_room growLays (some ⟨g, 0, none⟩) n cap k w h1 (by simpa [maxLen] using h2) (by omega) hr) ?_
      rintro e w' ⟨rfl, rfl⟩
      exact ⟨⟨_, rfl, hown, fun _ h => .inl h⟩, Fr.refl _ _⟩
    · refine grown (some ⟨g, 0, none⟩) cap cur.toList h1 (by omega) (by rw [Array.length_toList, h3, Nat.mul_one]) (by rw [← h4, Nat.mul_one]) (fun h => by cases h) ?_
      intro x hx j u hu
      obtain rfl := Option.some.inj hx
      have hadd : (⟨g, 0, none⟩ : Addr).add j = ⟨g, j, none⟩ := by unfold Addr.add; split <;> simp_all
      rw [hadd, cell_of_row w g j cur 33 (0, 0) hg]
      simpa using hu
end Go.Proofs.YtlakfnlkiebpdaaDoor
