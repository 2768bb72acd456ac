/- Plain mathematics: whether two values are the same, and in how many steps. Conditions: none. -/
import Derived.Test.YtlakfnlkiebpdaaDoorRtsOne
namespace Go.Proofs.YtlakfnlkiebpdaaDoor
open Go Go.RowKit
def fieldsF (f : Nat → Nat → Nat → Nat × Nat) : List Nat → List Nat → Nat → Nat × Nat
  | x :: xs, y :: ys, left => if (f x y left).1 = 1 then fieldsF f xs ys (f x y left).2 else f x y left
  | [], _, left => (1, left)
  | _ :: _, [], left => (1, left)
def sameF (L : Nat → Nat → Nat ⊕ (List Nat × List Nat)) : Nat → Nat → Nat → Nat → Nat × Nat
  | 0, _, _, _ => (3, 0)
  | fuel + 1, a, c, left => if left = 0 then (3, 0) else match L a c with
    | .inl k => (k, left - 1)
    | .inr p => fieldsF (sameF L fuel) p.1 p.2 (left - 1)
section
variable {L : Nat → Nat → Nat ⊕ (List Nat × List Nat)}
theorem fieldsF_le {f : Nat → Nat → Nat → Nat × Nat} (h : ∀ x y l, (f x y l).2 ≤ l) : ∀ (xs ys : List Nat) (l : Nat), (fieldsF f xs ys l).2 ≤ l
  | x :: xs, y :: ys, l => by
    unfold fieldsF
    split
    · exact Nat.le_trans (fieldsF_le h xs ys _) (h x y l)
    · exact h x y l
  | [], _, l => by unfold fieldsF; exact Nat.le_refl _
  | _ :: _, [], l => by unfold fieldsF; exact Nat.le_refl _
theorem sameF_le : ∀ (n a c l : Nat), (sameF L n a c l).2 ≤ l
  | 0, _, _, l => by unfold sameF; exact Nat.zero_le _
  | n + 1, a, c, l => by
    unfold sameF
    split
    · exact Nat.zero_le _
    · split
      · exact Nat.sub_le _ _
      · exact Nat.le_trans (fieldsF_le (sameF_le n) _ _ _) (Nat.sub_le _ _)
theorem fieldsF_congr {f g : Nat → Nat → Nat → Nat × Nat} {N : Nat} (h : ∀ x y l, l ≤ N → f x y l = g x y l) (hf : ∀ x y l, (f x y l).2 ≤ l) : ∀ (xs ys : List Nat) (l : Nat), l ≤ N → fieldsF f xs ys l = fieldsF g xs ys l
  | x :: xs, y :: ys, l, hl => by
    have e := h x y l hl
    unfold fieldsF
    rw [← e]
    split
    · exact fieldsF_congr h hf xs ys _ (Nat.le_trans (hf x y l) hl)
    · rfl
  | [], _, l, _ => by unfold fieldsF; rfl
  | _ :: _, [], l, _ => by unfold fieldsF; rfl
theorem sameF_fuel : ∀ (n m a c l : Nat), l ≤ n → l ≤ m → sameF L n a c l = sameF L m a c l
  | 0, m, a, c, l, h1, _ => by
    obtain rfl : l = 0 := by omega
    cases m <;> simp [sameF]
  | n + 1, 0, a, c, l, _, h2 => by
    obtain rfl : l = 0 := by omega
    simp [sameF]
  | n + 1, m + 1, a, c, l, h1, h2 => by
    unfold sameF
    split
    · rfl
    · cases L a c with
      | inl k => rfl
      | inr p => exact fieldsF_congr (N := l - 1) (fun x y l' hl => sameF_fuel n m x y l' (by omega) (by omega)) (sameF_le n) _ _ _ (Nat.le_refl _)
/-- the answer and the steps that are left -/
def sameN (L : Nat → Nat → Nat ⊕ (List Nat × List Nat)) (a c left : Nat) : Nat × Nat := sameF L left a c left
def fieldsN (L : Nat → Nat → Nat ⊕ (List Nat × List Nat)) : List Nat → List Nat → Nat → Nat × Nat := fieldsF (sameN L)
theorem sameN_zero (a c : Nat) : sameN L a c 0 = (3, 0) := rfl
theorem sameN_succ (a c n : Nat) : sameN L a c (n + 1) = match L a c with
    | .inl k => (k, n)
    | .inr p => fieldsN L p.1 p.2 n := by
  unfold sameN
  rw [sameF]
  simp only [Nat.add_one_ne_zero, if_false, Nat.add_sub_cancel]
  cases L a c with
  | inl k => rfl
  | inr p => exact fieldsF_congr (N := n) (fun x y l hl => sameF_fuel n l x y l hl (Nat.le_refl _)) (sameF_le n) _ _ _ (Nat.le_refl _)
theorem sameN_le (a c l : Nat) : (sameN L a c l).2 ≤ l := sameF_le _ _ _ _
theorem fieldsN_le (xs ys : List Nat) (l : Nat) : (fieldsN L xs ys l).2 ≤ l := fieldsF_le (fun x y l => sameN_le x y l) _ _ _
theorem fieldsN_cons (x y : Nat) (xs ys : List Nat) (l : Nat) : fieldsN L (x :: xs) (y :: ys) l = if (sameN L x y l).1 = 1 then fieldsN L xs ys (sameN L x y l).2 else sameN L x y l := rfl
theorem fieldsN_nil (l : Nat) : fieldsN L [] [] l = (1, l) := rfl
theorem sameN_lt {a c l : Nat} (h : 1 ≤ l) : (sameN L a c l).2 < l := by
  obtain ⟨n, rfl⟩ : ∃ n, l = n + 1 := ⟨l - 1, by omega⟩
  rw [sameN_succ]
  cases L a c with
  | inl k => exact Nat.lt_succ_self _
  | inr p => exact Nat.lt_succ_of_le (fieldsN_le _ _ _)
/-- what comes of pairs that wait -/
def contN (L : Nat → Nat → Nat ⊕ (List Nat × List Nat)) : List (List Nat × List Nat) → Nat × Nat → Nat × Nat
  | [], r => r
  | p :: st, r => if r.1 = 1 then contN L st (fieldsN L p.1 p.2 r.2) else r
theorem contN_other {st : List (List Nat × List Nat)} {r : Nat × Nat} (h : r.1 ≠ 1) : contN L st r = r := by
  cases st with
  | nil => rfl
  | cons p st => unfold contN; rw [if_neg h]
theorem contN_cons (p : List Nat × List Nat) (st : List (List Nat × List Nat)) (l : Nat) : contN L (p :: st) (1, l) = contN L st (fieldsN L p.1 p.2 l) := by
  show (if _ then _ else _) = _
  rw [if_pos rfl]
/-- the first of the fields, and the others behind it -/
theorem contN_step (x y : Nat) (xs ys : List Nat) (hl : xs.length = ys.length) (st : List (List Nat × List Nat)) (l : Nat) :
    contN L st (fieldsN L (x :: xs) (y :: ys) l) = contN L (if xs = [] then st else (xs, ys) :: st) (sameN L x y l) := by
  rw [fieldsN_cons]
  by_cases h : (sameN L x y l).1 = 1
  · rw [if_pos h]
    by_cases hx : xs = []
    · subst hx
      have hy : ys = [] := by cases ys with
        | nil => rfl
        | cons _ _ => simp at hl
      subst hy
      rw [if_pos rfl, fieldsN_nil]
      congr 1
      exact Prod.ext h.symm rfl
    · rw [if_neg hx]
      show _ = if _ then _ else _
      rw [if_pos h]
  · rw [if_neg h, contN_other h, contN_other h]
end
/-- what a look at two words says: an answer (4: wrong), or the fields that decide -/
def lookS (os : List Ob) (h W : Nat) (a c : Nat) : Nat ⊕ (List Nat × List Nat) :=
  match idxAt os h W (toP (a : Int)), idxAt os h W (toP (c : Int)) with
  | some i, some j =>
    if isC (obN os i).k = true ∨ isC (obN os j).k = true then .inl 2
    else if (obN os i).k ≠ (obN os j).k then .inl 0
    else if (obN os i).k = 2 then .inl (if i = j then 1 else 0)
    else if (obN os i).ws.length ≠ (obN os j).ws.length then .inl 0
    else if (obN os i).k = 4 then .inl (if (obN os i).ws = (obN os j).ws then 1 else 0)
    else .inr ((obN os i).ws, (obN os j).ws)
  | none, none => if isIntB (a : Int) = false ∨ isIntB (c : Int) = false then .inl 4 else .inl (if a = c then 1 else 0)
  | none, some _ => if isIntB (a : Int) = false then .inl 4 else .inl (if a = c then 1 else 0)
  | some _, none => if isIntB (c : Int) = false then .inl 4 else .inl (if a = c then 1 else 0)
theorem lookS_symm (os : List Ob) (h W a c : Nat) : lookS os h W c a = match lookS os h W a c with
    | .inl k => .inl k
    | .inr p => .inr (p.2, p.1) := by
  unfold lookS
  cases ea : idxAt os h W (toP (a : Int)) with
  | none =>
    cases ec : idxAt os h W (toP (c : Int)) with
    | none =>
      simp only
      by_cases h1 : isIntB (a : Int) = false ∨ isIntB (c : Int) = false
      · rw [if_pos h1, if_pos h1.symm]
      · rw [if_neg h1, if_neg (fun q => h1 q.symm)]
        by_cases h2 : a = c
        · rw [if_pos h2, if_pos h2.symm]
        · rw [if_neg h2, if_neg (fun q => h2 q.symm)]
    | some j =>
      simp only
      by_cases h1 : isIntB (a : Int) = false
      · rw [if_pos h1, if_pos h1]
      · rw [if_neg h1, if_neg h1]
        by_cases h2 : a = c
        · rw [if_pos h2, if_pos h2.symm]
        · rw [if_neg h2, if_neg (fun q => h2 q.symm)]
  | some i =>
    cases ec : idxAt os h W (toP (c : Int)) with
    | none =>
      simp only
      by_cases h1 : isIntB (c : Int) = false
      · rw [if_pos h1, if_pos h1]
      · rw [if_neg h1, if_neg h1]
        by_cases h2 : a = c
        · rw [if_pos h2, if_pos h2.symm]
        · rw [if_neg h2, if_neg (fun q => h2 q.symm)]
    | some j =>
      simp only
      by_cases h1 : isC (obN os i).k = true ∨ isC (obN os j).k = true
      · rw [if_pos h1, if_pos h1.symm]
      · rw [if_neg h1, if_neg (fun q => h1 q.symm)]
        by_cases h2 : (obN os i).k ≠ (obN os j).k
        · rw [if_pos h2, if_pos (Ne.symm h2)]
        · rw [if_neg h2, if_neg (fun q => h2 (Ne.symm q))]
          have h2 : (obN os i).k = (obN os j).k := Classical.not_not.1 h2
          rw [← h2]
          by_cases h3 : (obN os i).k = 2
          · rw [if_pos h3, if_pos h3]
            by_cases h4 : i = j
            · rw [if_pos h4, if_pos h4.symm]
            · rw [if_neg h4, if_neg (fun q => h4 q.symm)]
          · rw [if_neg h3, if_neg h3]
            by_cases h4 : (obN os i).ws.length ≠ (obN os j).ws.length
            · rw [if_pos h4, if_pos (Ne.symm h4)]
            · rw [if_neg h4, if_neg (fun q => h4 (Ne.symm q))]
              by_cases h5 : (obN os i).k = 4
              · rw [if_pos h5, if_pos h5]
                by_cases h6 : (obN os i).ws = (obN os j).ws
                · rw [if_pos h6, if_pos h6.symm]
                · rw [if_neg h6, if_neg (fun q => h6 q.symm)]
              · rw [if_neg h5, if_neg h5]
theorem fieldsF_symm {f g : Nat → Nat → Nat → Nat × Nat} (h : ∀ x y l, f x y l = g y x l) : ∀ (xs ys : List Nat) (l : Nat), xs.length = ys.length → fieldsF f xs ys l = fieldsF g ys xs l
  | x :: xs, y :: ys, l, hl => by
    unfold fieldsF
    rw [← h x y l]
    split
    · exact fieldsF_symm h xs ys _ (by simpa using hl)
    · rfl
  | [], [], l, _ => rfl
  | _ :: _, [], l, hl => by simp at hl
  | [], _ :: _, l, hl => by simp at hl
theorem lookS_fields {os : List Ob} {h W a c : Nat} {p : List Nat × List Nat} (e : lookS os h W a c = .inr p) : ∃ i j, idxAt os h W (toP (a : Int)) = some i ∧ idxAt os h W (toP (c : Int)) = some j ∧ p = ((obN os i).ws, (obN os j).ws) ∧ (obN os i).ws.length = (obN os j).ws.length ∧ (obN os i).k = (obN os j).k ∧ isC (obN os i).k = false ∧ (obN os i).k ≠ 2 ∧ (obN os i).k ≠ 4 := by
  unfold lookS at e
  cases ea : idxAt os h W (toP (a : Int)) with
  | none =>
    cases ec : idxAt os h W (toP (c : Int)) with
    | none => simp only [ea, ec] at e; split at e <;> cases e
    | some j => simp only [ea, ec] at e; split at e <;> cases e
  | some i =>
    cases ec : idxAt os h W (toP (c : Int)) with
    | none => simp only [ea, ec] at e; split at e <;> cases e
    | some j =>
      simp only [ea, ec] at e
      split at e
      · cases e
      · rename_i h1
        split at e
        · cases e
        · rename_i h2
          split at e
          · cases e
          · rename_i h3
            split at e
            · cases e
            · rename_i h4
              split at e
              · cases e
              · rename_i h5
                injection e with e
                refine ⟨i, j, rfl, rfl, e.symm, Classical.not_not.1 h4, Classical.not_not.1 h2, ?_, h3, h5⟩
                cases q : isC (obN os i).k with
                | false => rfl
                | true => exact absurd (.inl q) h1
theorem sameN_symm (os : List Ob) (h W : Nat) : ∀ (n a c : Nat), sameN (lookS os h W) c a n = sameN (lookS os h W) a c n := by
  intro n
  induction n using Nat.strongRecOn with
  | _ n ih =>
    intro a c
    cases n with
    | zero => rfl
    | succ n =>
      rw [sameN_succ, sameN_succ, lookS_symm]
      cases e : lookS os h W a c with
      | inl k => rfl
      | inr p =>
        obtain ⟨i, j, _, _, rfl, hl, _⟩ := lookS_fields e
        simp only
        unfold fieldsN
        have key : ∀ (xs ys : List Nat) (l : Nat), xs.length = ys.length → l ≤ n → fieldsF (sameN (lookS os h W)) ys xs l = fieldsF (sameN (lookS os h W)) xs ys l := by
          intro xs
          induction xs with
          | nil => intro ys l h1 _; cases ys with
            | nil => rfl
            | cons _ _ => simp at h1
          | cons x xs ihx =>
            intro ys l h1 h2
            cases ys with
            | nil => simp at h1
            | cons y ys =>
              have hxy := ih l (by omega) x y
              rw [fieldsF, fieldsF, hxy]
              split
              · exact ihx ys _ (by simpa using h1) (Nat.le_trans (sameN_le _ _ _) h2)
              · rfl
        exact key _ _ n hl (Nat.le_refl _)
theorem sameN_self (os : List Ob) (h W : Nat) : ∀ (n a : Nat), (sameN (lookS os h W) a a n).1 ≠ 0 := by
  intro n
  induction n using Nat.strongRecOn with
  | _ n ih =>
    intro a
    cases n with
    | zero => rw [sameN_zero]; decide
    | succ n =>
      rw [sameN_succ]
      cases e : lookS os h W a a with
      | inl k =>
        simp only
        unfold lookS at e
        cases ea : idxAt os h W (toP (a : Int)) with
        | none =>
          simp only [ea] at e
          split at e <;> (injection e with e; subst e; simp)
        | some i =>
          simp only [ea] at e
          split at e
          · injection e with e; subst e; simp
          · split at e
            · rename_i h2; exact absurd rfl h2
            · split at e
              · injection e with e; subst e; simp
              · split at e
                · rename_i h2; exact absurd rfl h2
                · split at e
                  · injection e with e; subst e; simp
                  · cases e
      | inr p =>
        obtain ⟨i, j, h1, h2, rfl, hl, _⟩ := lookS_fields e
        rw [h1] at h2
        obtain rfl := Option.some.inj h2
        simp only
        have key : ∀ (xs : List Nat) (l : Nat), l ≤ n → (fieldsN (lookS os h W) xs xs l).1 ≠ 0 := by
          intro xs
          induction xs with
          | nil => intro l _; rw [fieldsN_nil]; simp
          | cons x xs ihx =>
            intro l hl2
            rw [fieldsN_cons]
            split
            · exact ihx _ (Nat.le_trans (sameN_le _ _ _) hl2)
            · exact ih l (by omega) x
        exact key _ n (Nat.le_refl _)
end Go.Proofs.YtlakfnlkiebpdaaDoor
