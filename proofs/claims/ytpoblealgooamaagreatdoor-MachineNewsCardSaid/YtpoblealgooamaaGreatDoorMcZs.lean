/- Rows of words of the integer 0, as the document's cells and as the graph's numbers. Conditions: none. -/
import Derived.Test.YtpoblealgooamaaGreatDoorMemOne
import Derived.Maps.AppendAt
namespace Go.Proofs.YtpoblealgooamaaGreatDoor
open Go Go.RowKit
/-- n words of the integer 0, cell by cell -/
def zsR : Nat → List Value
  | 0 => []
  | n + 1 => zsR n ++ [.bool false, .int .i64 0, .int .i64 0]
theorem zsR_len (n : Nat) : (zsR n).length = n * 3 := by
  induction n with
  | zero => rfl
  | succ n ih => show (zsR n ++ _).length = _; rw [List.length_append, ih]; simp; omega
theorem zsR_add (a b : Nat) : zsR (a + b) = zsR a ++ zsR b := by
  induction b with
  | zero => exact (List.append_nil _).symm
  | succ b ih => show zsR (a + b) ++ _ = zsR a ++ (zsR b ++ _); rw [ih, List.append_assoc]
theorem zsR_one (n : Nat) : ∀ u ∈ zsR n, u.oneCell' = true := by
  induction n with
  | zero => intro u hu; cases hu
  | succ n ih =>
    intro u hu
    rcases List.mem_append.1 (show u ∈ zsR n ++ _ from hu) with h | h
    · exact ih u h
    · simp at h
      rcases h with rfl | rfl <;> rfl
theorem zsR_cell {w : World} {g o : Nat} : ∀ (n : Nat), (∀ k, k < n → w.cell? ⟨g, o + k * 3, none⟩ = some (.bool false) ∧ w.cell? ⟨g, o + k * 3 + 1, none⟩ = some (.int .i64 0) ∧ w.cell? ⟨g, o + k * 3 + 2, none⟩ = some (.int .i64 0)) → ∀ j u, (zsR n)[j]? = some u → w.cell? ((⟨g, o, none⟩ : Addr).add j) = some u := by
  intro n
  induction n with
  | zero => intro _ j u hj; cases hj
  | succ n ih =>
    intro h j u hj
    change (zsR n ++ _)[j]? = some u at hj
    by_cases hl : j < n * 3
    · rw [List.getElem?_append_left (by rw [zsR_len]; exact hl)] at hj
      exact ih (fun k hk => h k (by omega)) j u hj
    · rw [List.getElem?_append_right (by rw [zsR_len]; omega), zsR_len] at hj
      obtain ⟨h0, h1, h2⟩ := h n (by omega)
      obtain ⟨d, hd⟩ : ∃ d, j = n * 3 + d := ⟨j - n * 3, by omega⟩
      subst hd
      rw [Nat.add_sub_cancel_left] at hj
      have hlt : d < 3 := by
        have := (List.getElem?_eq_some_iff.1 hj).1
        simpa using this
      rw [show (⟨g, o, none⟩ : Addr).add (n * 3 + d) = ⟨g, o + (n * 3 + d), none⟩ from by simp [Addr.add]]
      rcases (show d = 0 ∨ d = 1 ∨ d = 2 by omega) with rfl | rfl | rfl
      · obtain rfl : Value.bool false = u := by simpa using hj
        exact h0
      · obtain rfl : Value.int .i64 0 = u := by simpa using hj
        exact h1
      · obtain rfl : Value.int .i64 0 = u := by simpa using hj
        exact h2
/-- what such a row's slice holds at the beginning of each word -/
theorem zsR_row {w : World} {B n : Nat} {v : Value} {t : TypeId} (h : w.ownsRow B t 3 v n (zsR n)) (hn : 0 < n) : ∃ g c, v = .slice (some ⟨g, 0, none⟩) n c ∧ B ≤ g ∧ g < w.heap.size ∧ ∀ k, k < n → w.cell? ⟨g, k * 3, none⟩ = some (.bool false) ∧ w.cell? ⟨g, k * 3 + 1, none⟩ = some (.int .i64 0) ∧ w.cell? ⟨g, k * 3 + 2, none⟩ = some (.int .i64 0) := by
  have key : ∀ n k, k < n → (zsR n)[k * 3]? = some (.bool false) ∧ (zsR n)[k * 3 + 1]? = some (.int .i64 0) ∧ (zsR n)[k * 3 + 2]? = some (.int .i64 0) := by
    intro n
    induction n with
    | zero => intro k hk; omega
    | succ n ih =>
      intro k hk
      show (zsR n ++ _)[k * 3]? = _ ∧ (zsR n ++ _)[k * 3 + 1]? = _ ∧ (zsR n ++ _)[k * 3 + 2]? = _
      by_cases h : k < n
      · rw [List.getElem?_append_left (by rw [zsR_len]; omega), List.getElem?_append_left (by rw [zsR_len]; omega), List.getElem?_append_left (by rw [zsR_len]; omega)]
        exact ih k h
      · obtain rfl : k = n := by omega
        rw [List.getElem?_append_right (by rw [zsR_len]; omega), List.getElem?_append_right (by rw [zsR_len]; omega), List.getElem?_append_right (by rw [zsR_len]; omega), zsR_len]
        rw [show k * 3 - k * 3 = 0 by omega, show k * 3 + 1 - k * 3 = 1 by omega, show k * 3 + 2 - k * 3 = 2 by omega]
        exact ⟨rfl, rfl, rfl⟩
  rcases h.2 with ⟨_, rfl⟩ | ⟨g, cap, cur, rfl, hbg, hg, _, _, _, htk⟩
  · omega
  · refine ⟨g, cap, rfl, hbg, (Array.getElem?_eq_some_iff.1 hg).1, fun k hk => ?_⟩
    have hat : ∀ j u, (zsR n)[j]? = some u → w.cell? ⟨g, j, none⟩ = some u := fun j u hj => by
      rw [← htk, List.getElem?_take] at hj
      split at hj
      · rw [show w.cell? ⟨g, j, none⟩ = cur[j]? by simp [World.cell?, hg]]
        rw [Array.getElem?_toList] at hj
        exact hj
      · cases hj
    obtain ⟨a, b, c⟩ := key n k hk
    exact ⟨hat _ _ a, hat _ _ b, hat _ _ c⟩
/-- k integers 0 as the graph has them -/
def onR : Nat → List Nat
  | 0 => []
  | n + 1 => onR n ++ [1, 0]
theorem onR_len (n : Nat) : (onR n).length = n + n := by
  induction n with
  | zero => rfl
  | succ n ih => show (onR n ++ _).length = _; rw [List.length_append, ih]; simp; omega
theorem onR_val (n : Nat) : u64s (onR n) ++ [.int .u64 1, .int .u64 0] = u64s (onR (n + 1)) := by
  show _ = u64s (onR n ++ [1, 0])
  unfold u64s
  rw [List.map_append]
  rfl
end Go.Proofs.YtpoblealgooamaaGreatDoor
