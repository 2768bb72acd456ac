/- Plain mathematics: what stands for the same, and what is told of a word, behind a collection. Conditions: none. -/
import Derived.Test.YtlakfnlkiebpdaaDoorRtsSM
import Derived.Test.YtlakfnlkiebpdaaDoorRtsFour
import Derived.Test.YtlakfnlkiebpdaaDoorGcFour
namespace Go.Proofs.YtlakfnlkiebpdaaDoor
open Go Go.RowKit
theorem intB_nat (n : Nat) : isIntB (n : Int) = decide (n % 2 = 1) := by unfold isIntB; exact decide_eq_decide.2 (by omega)
theorem right_parts {k s t : Nat} (h : rightB (k : Int) (s : Int) (t : Int) = true) : (k = 1 ∨ k = 3 → t = s) ∧ (k = 2 → t = s ∧ s = 1) ∧ (k = 4 → t = 0) ∧ (k = 1 ∨ k = 2 ∨ k = 3 ∨ k = 4 ∨ k = 5) ∧ t ≤ s := by
  have := of_decide_eq_true h
  omega
section
variable {now old : List Ob} {W : Nat} {met : List Nat}
theorem odd_none (os : List Ob) (h W : Nat) {n : Nat} (a : n % 2 = 1) : idxAt os h W (toP (n : Int)) = none := by
  cases e : idxAt os h W (toP (n : Int)) with
  | none => rfl
  | some j =>
    have h1 := toP_idx (os := os) (h := h) (W := W) (n := n) (j := j) e
    exact absurd (by unfold toP; rw [if_neg (by omega)]) h1
theorem renO_all {o : Ob} (ht : o.t = o.ws.length) : (renO 0 W now met o o.t).ws = o.ws.map (renW 0 W now met) := by
  show (o.ws.take o.t).map (renW 0 W now met) ++ o.ws.drop o.t = _
  rw [ht, List.take_length, List.drop_length, List.append_nil]
theorem renO_none {o : Ob} (ht : o.t = 0) : renO 0 W now met o o.t = o := by rw [ht]; exact renO_zero _ _ _ _ _
/-- what is known of a good word, ahead and behind -/
def Hit (now : List Ob) (W : Nat) (met : List Nat) (n j p : Nat) : Prop :=
  met[p]? = some j ∧ n % 2 ≠ 1 ∧ renW 0 W now met n % 2 ≠ 1 ∧ idxAt now 0 W (toP (n : Int)) = some j ∧ idxAt (newF 0 W now met) 1 W (toP ((renW 0 W now met n : Nat) : Int)) = some p ∧
    obN (newF 0 W now met) p = renO 0 W now met (obN now j) (obN now j).t ∧ rightB ((obN now j).k : Int) ((obN now j).ws.length : Int) ((obN now j).t : Int) = true ∧ ∀ x ∈ (obN now j).ws.take (obN now j).t, Good now 0 W met x
theorem good_cases (z : WF W 0 now old) (ok : Okm now met) (gd : ∀ j ∈ met, ∀ x ∈ tagW now j, Good now 0 W met x) {n : Nat} (g : Good now 0 W met n) :
    (n % 2 = 1 ∧ renW 0 W now met n = n) ∨ ∃ j p, Hit now W met n j p := by
  rcases g with a | ⟨a, j, e, hj⟩
  · exact .inl ⟨a, renW_int a⟩
  · refine .inr ⟨j, ?_⟩
    obtain ⟨p, hp⟩ := List.getElem?_of_mem hj
    obtain ⟨h1, h2⟩ := obj_ren (ex := []) z ok hp
    rw [List.append_nil] at h1
    have ho := obN_get (ok.lt j hj)
    refine ⟨p, hp, a, by rw [renW_ptr a e]; exact h2, e, by rw [renW_ptr a e]; exact h1, obN_of (newF_get (h := 0) (W := W) (os := now) hp), (z.okn _ (List.mem_of_getElem? ho)).right, fun x hx => gd j hj x ?_⟩
    rw [tagW_eq ho]
    exact hx
theorem hit_inj (ok : Okm now met) {a c i j p q : Nat} (h1 : Hit now W met a i p) (h2 : Hit now W met c j q) : (p = q ↔ i = j) := by
  constructor
  · rintro rfl
    have := h1.1.symm.trans h2.1
    exact Option.some.inj this
  · rintro rfl
    exact (idxOf_get ok.nd h1.1).symm.trans (idxOf_get ok.nd h2.1)
theorem hit_word {a c j p q : Nat} (h1 : Hit now W met a j p) (h2 : Hit now W met c j q) : a = c := by
  have e1 := (idxAt_some h1.2.2.2.1).2
  have e2 := (idxAt_some h2.2.2.2.1).2
  have p1 := toP_idx (os := now) (h := 0) (W := W) (n := a) (j := j) h1.2.2.2.1
  have p2 := toP_idx (os := now) (h := 0) (W := W) (n := c) (j := j) h2.2.2.2.1
  unfold toP at e1 e2 p1 p2
  split at p1
  · split at p2
    · rw [if_pos (by assumption)] at e1 e2; omega
    · exact absurd rfl p2
  · exact absurd rfl p1
/-- words are equal behind just if they were -/
theorem ren_inj (z : WF W 0 now old) (ok : Okm now met) (gd : ∀ j ∈ met, ∀ x ∈ tagW now j, Good now 0 W met x) {a c : Nat} (ga : Good now 0 W met a) (gc : Good now 0 W met c) : renW 0 W now met a = renW 0 W now met c ↔ a = c := by
  constructor
  · intro h
    rcases good_cases z ok gd ga with ⟨q, e⟩ | ⟨j, p, hj⟩ <;> rcases good_cases z ok gd gc with ⟨q', e'⟩ | ⟨j', p', hj'⟩
    · omega
    · have := hj'.2.2.1; omega
    · have := hj.2.2.1; omega
    · have e1 := hj.2.2.2.2.1
      rw [h, hj'.2.2.2.2.1] at e1
      have e2 := Option.some.inj e1
      obtain rfl := ((hit_inj ok hj hj').1 e2.symm)
      exact hit_word hj hj'
  · rintro rfl; rfl
theorem ren_odd (z : WF W 0 now old) (ok : Okm now met) (gd : ∀ j ∈ met, ∀ x ∈ tagW now j, Good now 0 W met x) {n c : Nat} (g : Good now 0 W met n) (hc : c % 2 = 1) : renW 0 W now met n = c ↔ n = c := by
  rcases good_cases z ok gd g with ⟨q, e⟩ | ⟨j, p, hj⟩
  · rw [e]
  · have := hj.2.1
    have := hj.2.2.1
    constructor <;> (intro; omega)
theorem ren_intB (z : WF W 0 now old) (ok : Okm now met) (gd : ∀ j ∈ met, ∀ x ∈ tagW now j, Good now 0 W met x) {n : Nat} (g : Good now 0 W met n) : isIntB ((renW 0 W now met n : Nat) : Int) = isIntB (n : Int) ∧ (isIntB (n : Int) = true → renW 0 W now met n = n) := by
  rw [intB_nat, intB_nat]
  rcases good_cases z ok gd g with ⟨q, e⟩ | ⟨j, p, hj⟩
  · rw [e]; exact ⟨rfl, fun _ => rfl⟩
  · have h1 := hj.2.1
    have h2 := hj.2.2.1
    exact ⟨decide_eq_decide.2 (by omega), fun q => absurd (of_decide_eq_true q) h1⟩
theorem look_ren (z : WF W 0 now old) (ok : Okm now met) (gd : ∀ j ∈ met, ∀ x ∈ tagW now j, Good now 0 W met x) {a c : Nat} (ga : Good now 0 W met a) (gc : Good now 0 W met c) :
    lookS (newF 0 W now met) 1 W (renW 0 W now met a) (renW 0 W now met c) = (match lookS now 0 W a c with
      | .inl k => .inl k
      | .inr p => .inr (p.1.map (renW 0 W now met), p.2.map (renW 0 W now met))) ∧
    ∀ p, lookS now 0 W a c = .inr p → (∀ x ∈ p.1, Good now 0 W met x) ∧ (∀ x ∈ p.2, Good now 0 W met x) ∧ p.1.length = p.2.length := by
  have hij := ren_inj z ok gd ga gc
  have hia := (ren_intB z ok gd ga).1
  have hic := (ren_intB z ok gd gc).1
  unfold lookS
  rcases good_cases z ok gd ga with ⟨q, e⟩ | ⟨i, p, hi⟩ <;> rcases good_cases z ok gd gc with ⟨q', e'⟩ | ⟨j, p', hj⟩
  · rw [e, e', odd_none _ _ _ q, odd_none _ _ _ q', odd_none _ _ _ q, odd_none _ _ _ q']
    simp only
    split <;> exact ⟨rfl, fun p h => by cases h⟩
  · rw [e, odd_none _ _ _ q, odd_none _ _ _ q, hj.2.2.2.1, hj.2.2.2.2.1]
    rw [e] at hij
    simp only
    split
    · exact ⟨rfl, fun p h => by cases h⟩
    · exact ⟨by simp only [hij], fun p h => by cases h⟩
  · rw [e', odd_none _ _ _ q', odd_none _ _ _ q', hi.2.2.2.1, hi.2.2.2.2.1]
    rw [e'] at hij
    simp only
    split
    · exact ⟨rfl, fun p h => by cases h⟩
    · exact ⟨by simp only [hij], fun p h => by cases h⟩
  · rw [hi.2.2.2.1, hi.2.2.2.2.1, hj.2.2.2.1, hj.2.2.2.2.1]
    simp only
    rw [hi.2.2.2.2.2.1, hj.2.2.2.2.2.1]
    have hpq := hit_inj ok hi hj
    have ri := right_parts hi.2.2.2.2.2.2.1
    have rj := right_parts hj.2.2.2.2.2.2.1
    have gi := hi.2.2.2.2.2.2.2
    have gj := hj.2.2.2.2.2.2.2
    have k1 : (renO 0 W now met (obN now i) (obN now i).t).k = (obN now i).k := rfl
    have k2 : (renO 0 W now met (obN now j) (obN now j).t).k = (obN now j).k := rfl
    rw [k1, k2, renO_len, renO_len]
    by_cases h1 : isC (obN now i).k = true ∨ isC (obN now j).k = true
    · rw [if_pos h1, if_pos h1]; exact ⟨rfl, fun p h => by cases h⟩
    · rw [if_neg h1, if_neg h1]
      by_cases h2 : (obN now i).k ≠ (obN now j).k
      · rw [if_pos h2, if_pos h2]; exact ⟨rfl, fun p h => by cases h⟩
      · rw [if_neg h2, if_neg h2]
        by_cases h3 : (obN now i).k = 2
        · rw [if_pos h3, if_pos h3]; exact ⟨by simp only [hpq], fun p h => by cases h⟩
        · rw [if_neg h3, if_neg h3]
          by_cases h4 : (obN now i).ws.length ≠ (obN now j).ws.length
          · rw [if_pos h4, if_pos h4]; exact ⟨rfl, fun p h => by cases h⟩
          · rw [if_neg h4, if_neg h4]
            have h2 : (obN now i).k = (obN now j).k := Classical.not_not.1 h2
            by_cases h5 : (obN now i).k = 4
            · rw [if_pos h5, if_pos h5, renO_none (ri.2.2.1 h5), renO_none (rj.2.2.1 (h2 ▸ h5))]
              exact ⟨rfl, fun p h => by cases h⟩
            · rw [if_neg h5, if_neg h5]
              have hk : (obN now i).k = 1 := by
                have h6 := ri.2.2.2.1
                unfold isC at h1
                simp only [Bool.or_eq_true, beq_iff_eq] at h1
                omega
              have t1 := ri.1 (.inl hk)
              have t2 := rj.1 (.inl (h2 ▸ hk))
              rw [renO_all t1, renO_all t2]
              refine ⟨rfl, fun p h => ?_⟩
              injection h with h
              subst h
              rw [t1, List.take_length] at gi
              rw [t2, List.take_length] at gj
              exact ⟨gi, gj, Classical.not_not.1 h4⟩
theorem sameN_ren (z : WF W 0 now old) (ok : Okm now met) (gd : ∀ j ∈ met, ∀ x ∈ tagW now j, Good now 0 W met x) : ∀ (n a c : Nat), Good now 0 W met a → Good now 0 W met c →
    sameN (lookS (newF 0 W now met) 1 W) (renW 0 W now met a) (renW 0 W now met c) n = sameN (lookS now 0 W) a c n := by
  intro n
  induction n using Nat.strongRecOn with
  | _ n ih =>
    intro a c ga gc
    cases n with
    | zero => rfl
    | succ n =>
      obtain ⟨h1, h2⟩ := look_ren z ok gd ga gc
      rw [sameN_succ, sameN_succ, h1]
      cases e : lookS now 0 W a c with
      | inl k => rfl
      | inr p =>
        obtain ⟨g1, g2, hl⟩ := h2 p e
        obtain ⟨xs, ys⟩ := p
        simp only at g1 g2 hl ⊢
        unfold fieldsN
        have key : ∀ (xs ys : List Nat) (l : Nat), xs.length = ys.length → l ≤ n → (∀ x ∈ xs, Good now 0 W met x) → (∀ y ∈ ys, Good now 0 W met y) → fieldsF (sameN (lookS (newF 0 W now met) 1 W)) (xs.map (renW 0 W now met)) (ys.map (renW 0 W now met)) l = fieldsF (sameN (lookS now 0 W)) xs ys l := by
          intro xs
          induction xs with
          | nil => intro ys l h1 _ _ _; cases ys with
            | nil => rfl
            | cons _ _ => simp at h1
          | cons x xs ihx =>
            intro ys l h1 h2 h3 h4
            cases ys with
            | nil => simp at h1
            | cons y ys =>
              have hxy := ih l (by omega) x y (h3 x (by simp)) (h4 y (by simp))
              rw [List.map_cons, List.map_cons, fieldsF, fieldsF, hxy]
              split
              · exact ihx ys _ (by simpa using h1) (Nat.le_trans (sameN_le _ _ _) h2) (fun x hx => h3 x (by simp [hx])) (fun x hx => h4 x (by simp [hx]))
              · rfl
        exact key xs ys n hl (Nat.le_refl _) g1 g2
/-! what is told -/
theorem ln_ren (z : WF W 0 now old) (ok : Okm now met) (gd : ∀ j ∈ met, ∀ x ∈ tagW now j, Good now 0 W met x) {n : Nat} (g : Good now 0 W met n) :
    (LN now 0 W n = none ∧ LN (newF 0 W now met) 1 W (renW 0 W now met n) = none) ∨ ∃ o : Ob, LN now 0 W n = some (o.k, o.ws) ∧ LN (newF 0 W now met) 1 W (renW 0 W now met n) = some (o.k, (renO 0 W now met o o.t).ws) ∧ rightB (o.k : Int) (o.ws.length : Int) (o.t : Int) = true ∧ ∀ x ∈ o.ws.take o.t, Good now 0 W met x := by
  rcases good_cases z ok gd g with ⟨q, e⟩ | ⟨j, p, hj⟩
  · rw [e]
    exact .inl ⟨LN_none (odd_none _ _ _ q), LN_none (odd_none _ _ _ q)⟩
  · refine .inr ⟨obN now j, LN_some hj.2.2.2.1, ?_, hj.2.2.2.2.2.2.1, hj.2.2.2.2.2.2.2⟩
    rw [LN_some hj.2.2.2.2.1, hj.2.2.2.2.2.1]
    rfl
theorem tup_ren (z : WF W 0 now old) (ok : Okm now met) (gd : ∀ j ∈ met, ∀ x ∈ tagW now j, Good now 0 W met x) {n : Nat} (g : Good now 0 W met n) (k : Nat) :
    tupL (LN (newF 0 W now met) 1 W) (renW 0 W now met n) k = (tupL (LN now 0 W) n k).map (List.map (renW 0 W now met)) ∧ ∀ ws, tupL (LN now 0 W) n k = some ws → ws.length = k ∧ ∀ x ∈ ws, Good now 0 W met x := by
  unfold tupL
  rcases ln_ren z ok gd g with ⟨h1, h2⟩ | ⟨o, h1, h2, hr, hg⟩
  · rw [h1, h2]; exact ⟨rfl, fun _ h => by cases h⟩
  · rw [h1, h2]
    simp only
    rw [renO_len]
    by_cases hk : o.k = 1 ∧ o.ws.length = k
    · rw [if_pos hk, if_pos hk]
      have ht := (right_parts hr).1 (.inl hk.1)
      rw [renO_all ht]
      refine ⟨rfl, fun ws h => ?_⟩
      injection h with h
      subst h
      rw [ht, List.take_length] at hg
      exact ⟨hk.2, hg⟩
    · rw [if_neg hk, if_neg hk]; exact ⟨rfl, fun _ h => by cases h⟩
theorem isK_ren (z : WF W 0 now old) (ok : Okm now met) (gd : ∀ j ∈ met, ∀ x ∈ tagW now j, Good now 0 W met x) {n : Nat} (g : Good now 0 W met n) (k : Nat) : isK (LN (newF 0 W now met) 1 W) (renW 0 W now met n) k = isK (LN now 0 W) n k := by
  unfold isK
  rcases ln_ren z ok gd g with ⟨h1, h2⟩ | ⟨o, h1, h2, _, _⟩ <;> rw [h1, h2]
theorem ref_ren (z : WF W 0 now old) (ok : Okm now met) (gd : ∀ j ∈ met, ∀ x ∈ tagW now j, Good now 0 W met x) {n : Nat} (g : Good now 0 W met n) (h : isK (LN now 0 W) n 2 = true) :
    (((LN (newF 0 W now met) 1 W (renW 0 W now met n)).map (·.2)).getD []).getD 0 0 = renW 0 W now met ((((LN now 0 W n).map (·.2)).getD []).getD 0 0) ∧ Good now 0 W met ((((LN now 0 W n).map (·.2)).getD []).getD 0 0) := by
  unfold isK at h
  rcases ln_ren z ok gd g with ⟨h1, h2⟩ | ⟨o, h1, h2, hr, hg⟩
  · rw [h1] at h; cases h
  · rw [h1] at h
    rw [h1, h2]
    have hk : o.k = 2 := by simpa using h
    obtain ⟨ht, hl⟩ := (right_parts hr).2.1 hk
    rw [renO_all ht]
    rw [ht, List.take_length] at hg
    obtain ⟨x, hx⟩ := List.length_eq_one_iff.1 hl
    rw [hx] at hg ⊢
    exact ⟨rfl, hg x (by simp)⟩
theorem tn_ren (z : WF W 0 now old) (ok : Okm now met) (gd : ∀ j ∈ met, ∀ x ∈ tagW now j, Good now 0 W met x) {n : Nat} (g : Good now 0 W met n) : TN (newF 0 W now met) 1 W (renW 0 W now met n) = TN now 0 W n := by
  have h : getX (newF 0 W now met) 1 W (renW 0 W now met n) = getX now 0 W n := by
    unfold getX
    rcases good_cases z ok gd g with ⟨q, e⟩ | ⟨j, p, hj⟩
    · rw [e, odd_none _ _ _ q, odd_none _ _ _ q]
    · rw [hj.2.2.2.1, hj.2.2.2.2.1]
      simp only
      rw [hj.2.2.2.2.2.1]
      by_cases hk : (obN now j).k = 4
      · rw [renO_none ((right_parts hj.2.2.2.2.2.2.1).2.2.1 hk)]
      · unfold getOb
        rw [if_pos (show (renO 0 W now met (obN now j) (obN now j).t).k ≠ 4 from hk), if_pos hk]
  unfold TN
  rw [h]
theorem getD_map (f : Nat → Nat) {l : List Nat} {i : Nat} (h : i < l.length) : (l.map f).getD i 0 = f (l.getD i 0) := by
  rw [List.getD_eq_getElem?_getD, List.getD_eq_getElem?_getD, List.getElem?_map, List.getElem?_eq_getElem h]; rfl
theorem getD_mem {l : List Nat} {i : Nat} (h : i < l.length) : l.getD i 0 ∈ l := by
  rw [List.getD_eq_getElem?_getD, List.getElem?_eq_getElem h]; exact List.getElem_mem h
theorem cell_ren (z : WF W 0 now old) (ok : Okm now met) (gd : ∀ j ∈ met, ∀ x ∈ tagW now j, Good now 0 W met x) {n : Nat} (g : Good now 0 W met n) :
    cellL (LN (newF 0 W now met) 1 W) (renW 0 W now met n) = (cellL (LN now 0 W) n).map (fun c => (renW 0 W now met c.1, renW 0 W now met c.2)) ∧ ∀ c, cellL (LN now 0 W) n = some c → Good now 0 W met c.1 ∧ Good now 0 W met c.2 := by
  obtain ⟨h1, h2⟩ := tup_ren z ok gd g 2
  unfold cellL
  rw [h1]
  cases e : tupL (LN now 0 W) n 2 with
  | none => exact ⟨rfl, fun _ h => by cases h⟩
  | some ws =>
    obtain ⟨hl, hg⟩ := h2 ws e
    simp only [Option.map_some]
    have g0 := hg _ (getD_mem (l := ws) (i := 0) (by omega))
    have g1 := hg _ (getD_mem (l := ws) (i := 1) (by omega))
    rw [getD_map _ (show 0 < ws.length by omega), getD_map _ (show 1 < ws.length by omega)]
    by_cases h3 : ws.getD 0 0 = 3
    · rw [if_pos h3, if_pos ((ren_odd z ok gd g0 (by decide)).2 h3)]
      obtain ⟨k1, k2⟩ := tup_ren z ok gd g1 2
      rw [k1]
      cases e' : tupL (LN now 0 W) (ws.getD 1 0) 2 with
      | none => exact ⟨rfl, fun _ h => by cases h⟩
      | some us =>
        obtain ⟨hl', hg'⟩ := k2 us e'
        simp only [Option.map_some]
        rw [getD_map _ (show 0 < us.length by omega), getD_map _ (show 1 < us.length by omega)]
        refine ⟨rfl, fun c h => ?_⟩
        injection h with h
        subst h
        exact ⟨hg' _ (getD_mem (by omega)), hg' _ (getD_mem (by omega))⟩
    · rw [if_neg h3, if_neg (fun q => h3 ((ren_odd z ok gd g0 (by decide)).1 q))]
      exact ⟨rfl, fun _ h => by cases h⟩
theorem mkOf_ren (z : WF W 0 now old) (ok : Okm now met) (gd : ∀ j ∈ met, ∀ x ∈ tagW now j, Good now 0 W met x) {n : Nat} (g : Good now 0 W met n) (ms : List Mkr) (st : Int) : mkOf ms st (renW 0 W now met n) = mkOf ms st n := by
  obtain ⟨h1, h2⟩ := ren_intB z ok gd g
  unfold mkOf
  rw [h1]
  cases e : isIntB (n : Int) with
  | true => rw [h2 e]
  | false => simp only [Bool.false_and]
theorem if_iff {α : Type} {b c : Prop} [Decidable b] [Decidable c] {x y : α} (h : b ↔ c) : (if b then x else y) = if c then x else y := by
  by_cases hb : b
  · rw [if_pos hb, if_pos (h.1 hb)]
  · rw [if_neg hb, if_neg (fun q => hb (h.2 q))]
theorem behindF_ren {f f' : Nat → Ty → List UInt8 × Bool} {w w' : Nat} {t : Ty} (h : f' w' t = f w t) (word : List UInt8) : behindF f' word w' t = behindF f word w t := by
  unfold behindF; rw [h]
theorem tupF_ren {f f' : Nat → Ty → List UInt8 × Bool} {r : Nat → Nat} : ∀ (ws : List Nat), (∀ x ∈ ws, ∀ t, f' (r x) t = f x t) → ∀ (ts : List Ty) (bt s : List UInt8), tupF f' (ws.map r) ts bt s = tupF f ws ts bt s
  | [], _, ts, bt, s => by rw [List.map_nil]; unfold tupF; rfl
  | w :: ws, h, [], bt, s => by rw [List.map_cons]; unfold tupF; rfl
  | w :: ws, h, t :: ts, bt, s => by
    rw [List.map_cons, tupF, tupF, h w (by simp) t, tupF_ren ws (fun x hx => h x (by simp [hx]))]
theorem listF_ren (z : WF W 0 now old) (ok : Okm now met) (gd : ∀ j ∈ met, ∀ x ∈ tagW now j, Good now 0 W met x) {el el' : Nat → List UInt8} (he : ∀ x, Good now 0 W met x → el' (renW 0 W now met x) = el x) : ∀ (n rest : Nat), Good now 0 W met rest → ∀ (bt s : List UInt8),
    listF (LN (newF 0 W now met) 1 W) el' n (renW 0 W now met rest) bt s = listF (LN now 0 W) el n rest bt s
  | 0, _, _, _, _ => rfl
  | n + 1, rest, g, bt, s => by
    rw [listF, listF]
    obtain ⟨h1, h2⟩ := cell_ren z ok gd g
    by_cases h : rest = 1
    · rw [if_pos h, if_pos ((ren_odd z ok gd g (by decide)).2 h)]
    · rw [if_neg h, if_neg (fun q => h ((ren_odd z ok gd g (by decide)).1 q)), h1]
      cases e : cellL (LN now 0 W) rest with
      | none => rfl
      | some c =>
        obtain ⟨g1, g2⟩ := h2 c e
        simp only [Option.map_some]
        rw [he c.1 g1, listF_ren z ok gd he n c.2 g2]
theorem consF_ren (z : WF W 0 now old) (ok : Okm now met) (gd : ∀ j ∈ met, ∀ x ∈ tagW now j, Good now 0 W met x) {f f' : Nat → Ty → List UInt8 × Bool} (hf : ∀ x, Good now 0 W met x → ∀ t, f' (renW 0 W now met x) t = f x t) (ms : List Mkr) {n : Nat} (g : Good now 0 W met n) (t : Ty) :
    consF (LN (newF 0 W now met) 1 W) ms f' (renW 0 W now met n) t = consF (LN now 0 W) ms f n t := by
  unfold consF
  rw [(ren_intB z ok gd g).1, mkOf_ren z ok gd g]
  by_cases hi : isIntB (n : Int) = true
  · rw [if_pos hi, if_pos hi]
  · rw [if_neg hi, if_neg hi]
    obtain ⟨h1, h2⟩ := tup_ren z ok gd g 2
    rw [h1]
    cases e : tupL (LN now 0 W) n 2 with
    | none => rfl
    | some ws =>
      obtain ⟨hl, hg⟩ := h2 ws e
      simp only [Option.map_some]
      rw [getD_map _ (show 0 < ws.length by omega), getD_map _ (show 1 < ws.length by omega), mkOf_ren z ok gd (hg _ (getD_mem (by omega)))]
      cases mkOf ms t.n (ws.getD 0 0) with
      | none => rfl
      | some k =>
        simp only
        rw [behindF_ren (hf _ (hg _ (getD_mem (by omega))) _)]
theorem showF_ren (z : WF W 0 now old) (ok : Okm now met) (gd : ∀ j ∈ met, ∀ x ∈ tagW now j, Good now 0 W met x) (ms : List Mkr) : ∀ (d n : Nat), Good now 0 W met n → ∀ t : Ty,
    showF (LN (newF 0 W now met) 1 W) (TN (newF 0 W now met) 1 W) ms d (renW 0 W now met n) t = showF (LN now 0 W) (TN now 0 W) ms d n t
  | 0, _, _, _ => rfl
  | d + 1, n, g, t => by
    rw [showF, showF]
    have hf := fun x (gx : Good now 0 W met x) t => showF_ren z ok gd ms d x gx t
    obtain ⟨f', hf'⟩ : ∃ f', showF (LN (newF 0 W now met) 1 W) (TN (newF 0 W now met) 1 W) ms d = f' := ⟨_, rfl⟩
    obtain ⟨f, hf0⟩ : ∃ f, showF (LN now 0 W) (TN now 0 W) ms d = f := ⟨_, rfl⟩
    rw [hf', hf0] at hf
    rw [hf', hf0]
    have hte : tellF (LN (newF 0 W now met) 1 W) (TN (newF 0 W now met) 1 W) ms f' (renW 0 W now met n) t = tellF (LN now 0 W) (TN now 0 W) ms f n t := by
      unfold tellF
      obtain ⟨hi, hi2⟩ := ren_intB z ok gd g
      have h1 := ren_odd z ok gd g (c := 1) (by decide)
      have hc : (t.n = 3 ∧ renW 0 W now met n = 1) ↔ (t.n = 3 ∧ n = 1) := and_congr_right (fun _ => h1)
      rw [hi, if_iff hc, tn_ren z ok gd g, isK_ren z ok gd g, isK_ren z ok gd g, consF_ren z ok gd hf ms g t, listF_ren z ok gd (fun x gx => by rw [hf x gx]) 300 n g]
      obtain ⟨t1, t2⟩ := tup_ren z ok gd g t.l.length
      rw [t1]
      by_cases c1 : t.n = 1 ∧ isIntB (n : Int) = true
      · rw [if_pos c1, if_pos c1, hi2 c1.2]
      · rw [if_neg c1, if_neg c1]
        have fin : ∀ (A A' : List UInt8 × Bool), A = A' → (if t.n = 7 ∧ t.l.length = 1 then (if isK (LN now 0 W) n 2 = true then (behindF f' [114, 101, 102] ((((LN (newF 0 W now met) 1 W (renW 0 W now met n)).map (·.2)).getD []).getD 0 0) (t.l.getD 0 zTy), true) else ([63], false)) else A) = (if t.n = 7 ∧ t.l.length = 1 then (if isK (LN now 0 W) n 2 = true then (behindF f [114, 101, 102] ((((LN now 0 W n).map (·.2)).getD []).getD 0 0) (t.l.getD 0 zTy), true) else ([63], false)) else A') := by
          rintro A _ rfl
          by_cases hk : isK (LN now 0 W) n 2 = true
          · obtain ⟨r1, r2⟩ := ref_ren z ok gd g hk
            rw [r1, behindF_ren (hf _ r2 _)]
          · rw [if_neg hk, if_neg hk]
        cases e : tupL (LN now 0 W) n t.l.length with
        | none =>
          simp only [Option.map_none]
          rw [fin _ _ rfl]
        | some ws =>
          simp only [Option.map_some]
          rw [tupF_ren ws (fun x hx t => hf x ((t2 ws e).2 x hx) t), fin _ _ rfl]
    rw [hte]
end
end Go.Proofs.YtlakfnlkiebpdaaDoor
