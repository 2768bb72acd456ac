/- Words split at spaces, in the library's words and in mine. Conditions: none. -/
import Derived.Lib.SplitLaws
import Derived.Test.YtfpgalckmfdcmaaDoorIsaInj
import Derived.Test.YtfpgalckmfdcmaaDoorIsaLinesM
namespace Go.Proofs.YtfpgalckmfdcmaaDoor
open Go Go.RowKit
/-- up to the first space, and behind it -/
theorem index32 : ∀ l : List UInt8, (Lib.index l [32] = -1 ∧ ∀ x ∈ l, x ≠ 32) ∨ ∃ i : Nat, Lib.index l [32] = i ∧ i < l.length ∧ (∀ x ∈ l.take i, x ≠ 32) ∧ l = l.take i ++ 32 :: l.drop (i + 1)
  | [] => .inl ⟨by decide, by simp⟩
  | b :: l => by
    by_cases hb : b = 32
    · subst hb
      exact .inr ⟨0, by simp [Lib.index], by simp, by simp, by simp⟩
    · have hp : List.isPrefixOf [32] (b :: l) = false := by simp [List.isPrefixOf]; exact fun e => hb e.symm
      have hix : Lib.index (b :: l) [32] = if Lib.index l [32] == -1 then -1 else Lib.index l [32] + 1 := by
        conv => lhs; unfold Lib.index
        rw [hp]; rfl
      rcases index32 l with ⟨h1, h2⟩ | ⟨i, h1, h2, h3, h4⟩
      · refine .inl ⟨by rw [hix, h1]; rfl, fun x hx => ?_⟩
        rcases List.mem_cons.1 hx with rfl | e
        · exact hb
        · exact h2 x e
      · refine .inr ⟨i + 1, ?_, by simpa using h2, fun x hx => ?_, ?_⟩
        · rw [hix, h1]
          have : ((i : Int) == -1) = false := by rw [beq_eq_false_iff_ne]; omega
          rw [this]
          simp
        · rw [List.take_succ_cons] at hx
          rcases List.mem_cons.1 hx with rfl | e
          · exact hb
          · exact h3 x e
        · rw [List.take_succ_cons, List.drop_succ_cons, List.cons_append]
          exact congrArg (b :: ·) h4
theorem splitK_S : ∀ (k : Nat) (l : List UInt8), l.count 32 ≤ k → Lib.splitK [32] 0 k l = splitS l
  | 0, l, h => by
    have hn : ∀ x ∈ l, x ≠ 32 := fun x hx e => by
      subst e
      have := List.count_pos_iff.2 hx
      omega
    rw [splitS_last hn]
    rfl
  | k + 1, l, h => by
    rcases index32 l with ⟨h1, h2⟩ | ⟨i, h1, h2, h3, h4⟩
    · rw [splitS_last h2]
      unfold Lib.splitK
      rw [h1]
      rfl
    · have hc : (l.drop (i + 1)).count 32 ≤ k := by
        rw [h4, List.count_append, List.count_cons_self] at h
        omega
      have hne : ((i : Int) == -1) = false := by rw [beq_eq_false_iff_ne]; omega
      have e := splitS_cut (a := l.take i) (l.drop (i + 1)) h3
      rw [← h4] at e
      rw [e, ← splitK_S k _ hc]
      conv => lhs; unfold Lib.splitK
      rw [h1, hne]
      simp
theorem count32 : ∀ (n : Nat) (l : List UInt8), l.length ≤ n → Lib.count l [32] = l.count 32
  | 0, l, h => by
    have : l = [] := by cases l <;> simp_all
    subst this
    exact Lib.count_miss (by decide)
  | n + 1, l, h => by
    rcases index32 l with ⟨h1, h2⟩ | ⟨i, h1, h2, h3, h4⟩
    · rw [Lib.count_miss h1, List.count_eq_zero.2 (fun hx => h2 32 hx rfl)]
    · have h5 := Lib.count_hit (sub := [32]) (by simp) h1
      rw [h5, List.length_singleton, count32 n (l.drop (i + 1)) (by rw [List.length_drop]; omega)]
      have h6 : (l.take i).count 32 = 0 := List.count_eq_zero.2 (fun hx => h3 32 hx rfl)
      conv => rhs; rw [h4]
      rw [List.count_append, h6, List.count_cons_self]
      omega
/-- what strings.Split answers at a space -/
theorem split_words (s : ByteArray) : (Lib.splitB ⟨#[32]⟩ 0 (Lib.countB s ⟨#[32]⟩) s).map (·.data.toList) = splitS s.data.toList := by
  rw [Lib.splitB_data]
  exact splitK_S _ _ (Nat.le_of_eq (count32 _ _ (Nat.le_refl _)).symm)
theorem split_len (s : ByteArray) : Lib.countB s ⟨#[32]⟩ + 1 = (splitS s.data.toList).length := by
  rw [← split_words, List.length_map, Lib.splitB_all ⟨#[32]⟩ (by decide) 0 _ s rfl]
theorem splitS_len : ∀ l : List UInt8, (splitS l).length ≤ l.length + 1
  | [] => by simp [splitS]
  | x :: l => by
    have ih := splitS_len l
    unfold splitS
    split
    · simp; omega
    · split
      · simp
      · rename_i h
        rw [h] at ih
        simp at ih ⊢
        omega
end Go.Proofs.YtfpgalckmfdcmaaDoor
