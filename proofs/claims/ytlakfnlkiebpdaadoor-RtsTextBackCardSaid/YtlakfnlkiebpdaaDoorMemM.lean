/- Plain mathematics of a memory: marks, objects in a row. Conditions: none. -/
import Derived.RowKit
namespace Go.Proofs.YtlakfnlkiebpdaaDoor
open Go Go.RowKit
/-- a row of marks with one bit more -/
def markAt (M : List Nat) (c : Nat) : List Nat :=
  let P := M ++ List.replicate (c / 64 + 1 - M.length) 0
  P.set (c / 64) (P.getD (c / 64) 0 ||| 2 ^ (c % 64))
/-- is a cell marked? -/
def bitAt (M : List Nat) (c : Nat) : Bool := decide (c / 64 < M.length) && (M.getD (c / 64) 0).testBit (c % 64)
theorem pad_length (M : List Nat) (c : Nat) : (M ++ List.replicate (c / 64 + 1 - M.length) 0).length = max M.length (c / 64 + 1) := by
  simp; omega
theorem markAt_length (M : List Nat) (c : Nat) : (markAt M c).length = max M.length (c / 64 + 1) := by
  unfold markAt
  rw [List.length_set, pad_length]
theorem pad_getD (M : List Nat) (k i : Nat) : (M ++ List.replicate k 0).getD i 0 = M.getD i 0 := by
  by_cases h : i < M.length
  · simp [List.getD, List.getElem?_append_left h]
  · have h' : M.length ≤ i := by omega
    simp only [List.getD]
    rw [List.getElem?_append_right h', List.getElem?_eq_none h']
    by_cases h2 : i - M.length < k
    · rw [List.getElem?_replicate, if_pos h2]; rfl
    · rw [List.getElem?_replicate, if_neg h2]
theorem bitAt_eq (M : List Nat) (c : Nat) : bitAt M c = (M.getD (c / 64) 0).testBit (c % 64) := by
  unfold bitAt
  by_cases h : c / 64 < M.length
  · simp [h]
  · have : M.getD (c / 64) 0 = 0 := by
      simp only [List.getD]
      rw [List.getElem?_eq_none (by omega)]; rfl
    simp only [this, Nat.zero_testBit, Bool.and_false]
theorem markAt_getD (M : List Nat) (c i : Nat) : (markAt M c).getD i 0 = if i = c / 64 then M.getD i 0 ||| 2 ^ (c % 64) else M.getD i 0 := by
  unfold markAt
  simp only []
  by_cases h : i = c / 64
  · subst h
    rw [if_pos rfl]
    simp only [List.getD_eq_getElem?_getD]
    rw [List.getElem?_set_self (by rw [pad_length]; omega)]
    have := pad_getD M (c / 64 + 1 - M.length) (c / 64)
    simp only [List.getD_eq_getElem?_getD] at this
    rw [Option.getD_some, this]
  · rw [if_neg h]
    simp only [List.getD_eq_getElem?_getD]
    rw [List.getElem?_set_ne (fun e => h e.symm)]
    have := pad_getD M (c / 64 + 1 - M.length) i
    simp only [List.getD_eq_getElem?_getD] at this
    exact this
theorem bitAt_markAt (M : List Nat) (c d : Nat) : bitAt (markAt M c) d = (decide (d = c) || bitAt M d) := by
  rw [bitAt_eq, bitAt_eq, markAt_getD]
  by_cases h : d / 64 = c / 64
  · rw [if_pos h, Nat.testBit_or, Nat.testBit_two_pow]
    by_cases h2 : d % 64 = c % 64
    · have : d = c := by omega
      subst this
      simp
    · have : d ≠ c := fun e => h2 (by rw [e])
      have h3 : ¬ (c % 64 = d % 64) := fun e => h2 e.symm
      simp [this, h3]
  · rw [if_neg h]
    have : d ≠ c := fun e => h (by rw [e])
    simp [this]
theorem markAt_lt {M : List Nat} (hM : ∀ x ∈ M, x < 18446744073709551616) (c : Nat) : ∀ x ∈ markAt M c, x < 18446744073709551616 := by
  intro x hx
  have hP : ∀ y ∈ M ++ List.replicate (c / 64 + 1 - M.length) 0, y < 18446744073709551616 := by
    intro y hy
    rcases List.mem_append.1 hy with h | h
    · exact hM y h
    · have := List.eq_of_mem_replicate h
      omega
  unfold markAt at hx
  simp only [] at hx
  rcases List.mem_or_eq_of_mem_set hx with h | h
  · exact hP x h
  · subst h
    have h1 : 2 ^ (c % 64) < 2 ^ 64 := Nat.pow_lt_pow_right (by decide) (Nat.mod_lt _ (by decide))
    have h2 : (M ++ List.replicate (c / 64 + 1 - M.length) 0).getD (c / 64) 0 < 2 ^ 64 := by
      simp only [List.getD_eq_getElem?_getD]
      cases e : (M ++ List.replicate (c / 64 + 1 - M.length) 0)[c / 64]? with
      | none => simp
      | some y => exact hP y (List.mem_of_getElem? e)
    exact Nat.or_lt_two_pow h2 h1
/-- an object: kind, tagged ones, fields, where it was moved to (0: nowhere) -/
structure Ob where
  k : Nat
  t : Nat
  ws : List Nat
  to : Nat
/-- the word of a header -/
def hdr (k s t : Nat) : Nat := 1 + 2 * k + 16 * s + 268435456 * t
/-- an object's first cell: its header, or the word of its new address -/
def Ob.hw (o : Ob) : Nat := if o.to = 0 then hdr o.k o.ws.length o.t else 2 * o.to
/-- objects, cell by cell -/
def flat (os : List Ob) : List Nat := os.flatMap fun o => o.hw :: o.ws
/-- how many cells objects take -/
def used (os : List Ob) : Nat := (os.map fun o => 1 + o.ws.length).sum
/-- where the object of a number begins -/
def start (os : List Ob) (j : Nat) : Nat := used (os.take j)
/-- the marks of objects -/
def marksL (os : List Ob) : List Nat := ((List.range os.length).map (start os)).foldl markAt []
theorem used_append (a b : List Ob) : used (a ++ b) = used a + used b := by simp [used]
theorem used_one (o : Ob) : used [o] = 1 + o.ws.length := by simp [used]
theorem flat_length (os : List Ob) : (flat os).length = used os := by
  induction os with
  | nil => rfl
  | cons o l ih =>
    have : flat (o :: l) = (o.hw :: o.ws) ++ flat l := rfl
    rw [this, List.length_append, ih]
    simp [used]; omega
theorem flat_append (a b : List Ob) : flat (a ++ b) = flat a ++ flat b := by simp [flat]
theorem start_append (a b : List Ob) (j : Nat) (h : j ≤ a.length) : start (a ++ b) j = start a j := by
  unfold start; rw [List.take_append_of_le_length h]
theorem start_len (a : List Ob) : start a a.length = used a := by unfold start; rw [List.take_length]
theorem marksL_snoc (os : List Ob) (o : Ob) : marksL (os ++ [o]) = markAt (marksL os) (used os) := by
  unfold marksL
  rw [List.length_append, List.length_singleton, List.range_succ, List.map_append, List.foldl_append]
  have e : (List.range os.length).map (start (os ++ [o])) = (List.range os.length).map (start os) := by
    apply List.map_congr_left
    intro j hj
    exact start_append _ _ _ (Nat.le_of_lt (List.mem_range.1 hj))
  rw [e]
  simp only [List.map_cons, List.map_nil, List.foldl_cons, List.foldl_nil]
  rw [start_append _ _ _ (Nat.le_refl _), start_len]
theorem bitAt_nil (c : Nat) : bitAt [] c = false := by simp [bitAt]
theorem start_succ (os : List Ob) (j : Nat) (h : j < os.length) : start os (j + 1) = start os j + (1 + os[j].ws.length) := by
  unfold start
  rw [List.take_succ_eq_append_getElem h, used_append, used_one]
theorem start_mono (os : List Ob) {i j : Nat} (h : i ≤ j) (hj : j ≤ os.length) : start os i + (j - i) ≤ start os j := by
  induction j with
  | zero => obtain rfl : i = 0 := by omega
            simp
  | succ j ih =>
    by_cases e : i = j + 1
    · subst e; simp
    · have := ih (by omega) (by omega)
      rw [start_succ os j (by omega)]
      omega
theorem start_inj (os : List Ob) {i j : Nat} (hi : i < os.length) (hj : j < os.length) (h : start os i = start os j) : i = j := by
  rcases Nat.lt_trichotomy i j with a | a | a
  · have := start_mono os (Nat.le_of_lt a) (Nat.le_of_lt hj); omega
  · exact a
  · have := start_mono os (Nat.le_of_lt a) (Nat.le_of_lt hi); omega
theorem start_lt (os : List Ob) {j : Nat} (hj : j < os.length) : start os j + os[j].ws.length < used os := by
  have h1 := start_succ os j hj
  have h2 := start_mono os (i := j + 1) (j := os.length) hj (Nat.le_refl _)
  rw [start_len] at h2
  omega
theorem bitAt_marksL (os : List Ob) (c : Nat) : bitAt (marksL os) c = true ↔ ∃ j, j < os.length ∧ start os j = c := by
  have gen : ∀ n, n ≤ os.length → (bitAt (marksL (os.take n)) c = true ↔ ∃ j, j < n ∧ start os j = c) := by
    intro n
    induction n with
    | zero => intro _; simp [marksL, bitAt_nil]
    | succ n ih =>
      intro hn
      rw [List.take_succ_eq_append_getElem (by omega), marksL_snoc, bitAt_markAt, Bool.or_eq_true, ih (by omega), decide_eq_true_eq]
      constructor
      · rintro (h | ⟨j, hj, hs⟩)
        · exact ⟨n, by omega, h.symm⟩
        · exact ⟨j, by omega, hs⟩
      · rintro ⟨j, hj, hs⟩
        by_cases e : j = n
        · subst e; exact .inl hs.symm
        · exact .inr ⟨j, by omega, hs⟩
  have := gen os.length (Nat.le_refl _)
  rwa [List.take_length] at this
theorem marksL_lt (os : List Ob) : ∀ x ∈ marksL os, x < 18446744073709551616 := by
  have gen : ∀ (l : List Nat) (M : List Nat), (∀ x ∈ M, x < 18446744073709551616) → ∀ x ∈ l.foldl markAt M, x < 18446744073709551616 := by
    intro l
    induction l with
    | nil => intro M h; exact h
    | cons c l ih => intro M h; exact ih _ (markAt_lt h c)
  exact gen _ _ (by simp)
/-- the cells of the object of a number -/
theorem flat_at (os : List Ob) {j : Nat} (hj : j < os.length) : (flat os)[start os j]? = some os[j].hw ∧ ∀ i, i < os[j].ws.length → (flat os)[start os j + 1 + i]? = os[j].ws[i]? := by
  have e : os = os.take j ++ (os[j] :: os.drop (j + 1)) := by
    rw [← List.drop_eq_getElem_cons hj, List.take_append_drop]
  have hf : flat os = flat (os.take j) ++ ((os[j].hw :: os[j].ws) ++ flat (os.drop (j + 1))) := by
    conv => lhs; rw [e]
    rw [flat_append]; rfl
  have hl : (flat (os.take j)).length = start os j := by rw [flat_length]; rfl
  constructor
  · rw [hf, List.getElem?_append_right (by omega), hl, Nat.sub_self]; rfl
  · intro i hi
    rw [hf, List.getElem?_append_right (by omega), hl, show start os j + 1 + i - start os j = i + 1 by omega]
    rw [List.getElem?_append_left (by simp; omega)]
    rfl
end Go.Proofs.YtlakfnlkiebpdaaDoor
