/- Unlike right instructions have unlike texts. Conditions: none. -/
import Derived.Test.YtfpgalckmfdcmaaDoorIsaTxt
namespace Go.Proofs.YtfpgalckmfdcmaaDoor
open Go Go.RowKit
/-- words between spaces -/
def splitS : List UInt8 → List (List UInt8)
  | [] => [[]]
  | x :: l => if x = 32 then [] :: splitS l else match splitS l with
    | [] => [[x]]
    | p :: ps => (x :: p) :: ps
theorem splitS_ne (l : List UInt8) : splitS l ≠ [] := by
  cases l with
  | nil => simp [splitS]
  | cons x l =>
    unfold splitS
    split
    · simp
    · split <;> simp
theorem splitS_last : ∀ {a : List UInt8}, (∀ x ∈ a, x ≠ 32) → splitS a = [a]
  | [], _ => rfl
  | x :: a, h => by
    unfold splitS
    rw [if_neg (h x (List.mem_cons_self ..)), splitS_last (fun y hy => h y (List.mem_cons_of_mem _ hy))]
theorem splitS_cut : ∀ {a : List UInt8} (r : List UInt8), (∀ x ∈ a, x ≠ 32) → splitS (a ++ 32 :: r) = a :: splitS r
  | [], r, _ => by simp [splitS]
  | x :: a, r, h => by
    have ih := splitS_cut r (fun y hy => h y (List.mem_cons_of_mem _ hy))
    rw [List.cons_append]
    conv => lhs; unfold splitS
    rw [if_neg (h x (List.mem_cons_self ..)), ih]
/-- an operand's word -/
def argW (k : UInt8) (v : Int) : List UInt8 := if k = 110 then Lib.itoa v else 114 :: Lib.itoa v
theorem argT_word (k : UInt8) (v : Int) : argT k v = 32 :: argW k v := by unfold argT argW; split <;> rfl
theorem itoa_no (v : Int) : ∀ x ∈ Lib.itoa v, x ≠ 32 := by
  intro x hx
  have hd : isDig x ∨ x = 45 := by
    by_cases q : v < 0
    · rw [itoa_neg' q] at hx
      rcases List.mem_cons.1 hx with e | e
      · exact .inr e
      · exact .inl (dec_dig _ x e)
    · rw [itoa_abs_pos (by omega)] at hx
      exact .inl (dec_dig _ x hx)
  rcases hd with h | rfl
  · rintro rfl
    have := h.1
    simp at this
  · decide
theorem argW_no (k : UInt8) (v : Int) : ∀ x ∈ argW k v, x ≠ 32 := by
  intro x hx
  unfold argW at hx
  split at hx
  · exact itoa_no v x hx
  · rcases List.mem_cons.1 hx with rfl | e
    · decide
    · exact itoa_no v x e
theorem split_args (a b c n : Int) : ∀ (form nm : List UInt8), (∀ x ∈ nm, x ≠ 32) → splitS (textF nm form a b c n) = nm :: form.map fun k => argW k (letterOf a b c n (k.toNat : Int))
  | [], nm, h => by
    unfold textF
    simp [splitS_last h]
  | k :: ks, nm, h => by
    have ih := split_args a b c n ks (argW k (letterOf a b c n (k.toNat : Int))) (argW_no _ _)
    unfold textF at ih ⊢
    rw [List.flatMap_cons, argT_word, List.cons_append, splitS_cut _ h, ih]
    rfl
theorem itoa_inj {v v' : Int} (e : Lib.itoa v = Lib.itoa v') : v = v' := by
  have hd : ∀ u : Nat, ∀ l, Lib.decDigits u ≠ 45 :: l := fun u l q => by
    have := dec_dig u 45 (by rw [q]; exact List.mem_cons_self ..)
    have := this.1
    simp at this
  by_cases q : v < 0 <;> by_cases q' : v' < 0
  · rw [itoa_neg' q, itoa_neg' q'] at e
    have := congrArg dval (List.cons.inj e).2
    rw [dec_val, dec_val] at this
    omega
  · rw [itoa_neg' q, itoa_abs_pos (by omega : 0 ≤ v')] at e
    exact (hd _ _ e.symm).elim
  · rw [itoa_neg' q', itoa_abs_pos (by omega : 0 ≤ v)] at e
    exact (hd _ _ e).elim
  · rw [itoa_abs_pos (by omega : 0 ≤ v), itoa_abs_pos (by omega : 0 ≤ v')] at e
    have := congrArg dval e
    rw [dec_val, dec_val] at this
    omega
theorem argW_inj {k : UInt8} {v v' : Int} (e : argW k v = argW k v') : v = v' := by
  unfold argW at e
  split at e
  · exact itoa_inj e
  · exact itoa_inj (List.cons.inj e).2
theorem chk_zero {s : ByteArray} {a b c n : Int} (h : chk s a b c n = 0) : ¬ (badZ s a 97 ∨ badZ s b 98 ∨ badZ s c 99 ∨ badN s n) := by
  intro q
  by_cases p : badR s a 97 ∨ badR s b 98 ∨ badR s c 99
  · rw [chk_31 p] at h; cases h
  · rw [chk_1 p q] at h; cases h
/-- what a form does not name is 0 -/
theorem zero_of {f : List UInt8} {a b c n : Int} (h : chk (bs f) a b c n = 0) : (hasB (bs f) 97 = false → a = 0) ∧ (hasB (bs f) 98 = false → b = 0) ∧ (hasB (bs f) 99 = false → c = 0) ∧ (hasB (bs f) 110 = false → n = 0) := by
  have hz := chk_zero h
  refine ⟨fun p => ?_, fun p => ?_, fun p => ?_, fun p => ?_⟩
  · by_cases q : a = 0
    · exact q
    · exact (hz (.inl ⟨p, q⟩)).elim
  · by_cases q : b = 0
    · exact q
    · exact (hz (.inr (.inl ⟨p, q⟩))).elim
  · by_cases q : c = 0
    · exact q
    · exact (hz (.inr (.inr (.inl ⟨p, q⟩)))).elim
  · by_cases q : n = 0
    · exact q
    · exact (hz (.inr (.inr (.inr (.inr ⟨p, q⟩))))).elim
theorem name_no_space : ∀ n, n < 37 → ∀ x ∈ (rowOf n).1, x ≠ 32 := by decide +kernel
theorem name_ne : ∀ n, n < 37 → 1 ≤ n → (rowOf n).1 ≠ [] := by decide +kernel
theorem name_inj : ∀ i, i < 37 → ∀ j, j < 37 → (rowOf i).1 = (rowOf j).1 → i = j := by decide +kernel
theorem textOf_yes {k : Nat} {a b c n : Int} (hc : chkOf (k : Int) a b c n = 0) : textOf (k : Int) a b c n = textF (rowOf k).1 (rowOf k).2.1 a b c n := by unfold textOf; rw [if_pos hc]; rfl
theorem textOf_ne {o a b c n : Int} (hc : chkOf o a b c n = 0) : textOf o a b c n ≠ [] := by
  obtain ⟨h0, h1⟩ := known_of hc
  obtain ⟨k, rfl⟩ := Int.eq_ofNat_of_zero_le (show 0 ≤ o by omega)
  rw [textOf_yes hc]
  unfold textF
  intro e
  exact name_ne k (by omega) (by omega) (List.append_eq_nil_iff.1 e).1
theorem textOf_inj {o a b c n o' a' b' c' n' : Int} (h : chkOf o a b c n = 0) (h' : chkOf o' a' b' c' n' = 0) (e : textOf o a b c n = textOf o' a' b' c' n') : o = o' ∧ a = a' ∧ b = b' ∧ c = c' ∧ n = n' := by
  obtain ⟨h0, h1⟩ := known_of h
  obtain ⟨h0', h1'⟩ := known_of h'
  obtain ⟨k, rfl⟩ := Int.eq_ofNat_of_zero_le (show 0 ≤ o by omega)
  obtain ⟨k', rfl⟩ := Int.eq_ofNat_of_zero_le (show 0 ≤ o' by omega)
  rw [textOf_yes h, textOf_yes h'] at e
  have e2 := congrArg splitS e
  rw [split_args _ _ _ _ _ _ (name_no_space k (by omega)), split_args _ _ _ _ _ _ (name_no_space k' (by omega))] at e2
  obtain ⟨en, ea⟩ := List.cons.inj e2
  obtain rfl := name_inj k (by omega) k' (by omega) en
  have z := zero_of (by rw [← chkOf_yes (op := k) (by omega) (by omega)]; exact h)
  have z' := zero_of (by rw [← chkOf_yes (op := k) (by omega) (by omega)]; exact h')
  obtain ⟨z0, z1, z2, z3⟩ := z
  obtain ⟨y0, y1, y2, y3⟩ := z'
  refine ⟨rfl, ?_⟩
  rcases row_cases k (by omega) with ⟨_, q⟩ | ⟨_, q⟩ | ⟨_, q⟩ | ⟨_, q⟩ | ⟨_, q⟩ | ⟨_, q⟩ | ⟨_, q⟩
  all_goals
    rw [q] at ea z0 z1 z2 z3 y0 y1 y2 y3
    simp only [List.map_cons, List.map_nil, List.cons.injEq, and_true] at ea
    refine ⟨?_, ?_, ?_, ?_⟩ <;>
    first
      | (rw [z0 (by decide), y0 (by decide)]; done)
      | (rw [z1 (by decide), y1 (by decide)]; done)
      | (rw [z2 (by decide), y2 (by decide)]; done)
      | (rw [z3 (by decide), y3 (by decide)]; done)
      | (have := argW_inj ea; simpa [letterOf] using this)
      | (have := argW_inj ea.1; simpa [letterOf] using this)
      | (have := argW_inj ea.2; simpa [letterOf] using this)
      | (have := argW_inj ea.2.1; simpa [letterOf] using this)
      | (have := argW_inj ea.2.2; simpa [letterOf] using this)
end Go.Proofs.YtfpgalckmfdcmaaDoor
