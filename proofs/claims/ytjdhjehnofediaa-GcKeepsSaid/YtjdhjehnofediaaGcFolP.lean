/- Plain mathematics: ways behind a collection lead where they led. Conditions: none. -/
import Derived.Test.YtjdhjehnofediaaGcAl
namespace Go.Proofs.Ytjdhjehnofediaa
open Go Go.RowKit
section
variable {now old o1 o2 : List Ob} {W : Nat} {met ns : List Nat}
theorem ren_lo {o : Ob} {i : Nat} (hi : i < o.t) (hl : i < o.ws.length) : (renO 0 W now met o o.t).ws.getD i 0 = renW 0 W now met (o.ws.getD i 0) := by
  show (((o.ws.take o.t).map (renW 0 W now met)) ++ o.ws.drop o.t).getD i 0 = _
  rw [List.getD_eq_getElem?_getD, List.getD_eq_getElem?_getD, List.getElem?_append_left (by simp; omega), List.getElem?_map, List.getElem?_take, if_pos hi, List.getElem?_eq_getElem hl]
  rfl
theorem ren_hi {o : Ob} {i : Nat} (hi : o.t ≤ i) (ht : o.t ≤ o.ws.length) : (renO 0 W now met o o.t).ws.getD i 0 = o.ws.getD i 0 := by
  show (((o.ws.take o.t).map (renW 0 W now met)) ++ o.ws.drop o.t).getD i 0 = _
  rw [List.getD_eq_getElem?_getD, List.getD_eq_getElem?_getD, List.getElem?_append_right (by simp; omega), List.length_map, List.length_take, Nat.min_eq_left ht, List.getElem?_drop, show o.t + (i - o.t) = i by omega]
/-- a good word's object, ahead and behind -/
theorem good_look (z : WF W 0 now old) (ok : Okm now met) {n j : Nat} (a : n % 2 ≠ 1) (e : objOf now 0 W n = some j) (hj : j ∈ met) :
    renW 0 W now met n % 2 ≠ 1 ∧ lookX 0 W ⟨now, o1⟩ (toP n) = ((obAt now j).k, (obAt now j).ws.length, (obAt now j).t, 0) ∧ lookX 1 W ⟨newF 0 W now met, o2⟩ (toP (renW 0 W now met n : Nat)) = ((obAt now j).k, (obAt now j).ws.length, (obAt now j).t, 0) ∧
    ∀ i, i < (obAt now j).ws.length → loadX 0 W ⟨now, o1⟩ (toP n) i = ((obAt now j).ws.getD i 0, 0) ∧ loadX 1 W ⟨newF 0 W now met, o2⟩ (toP (renW 0 W now met n : Nat)) i = ((renO 0 W now met (obAt now j) (obAt now j).t).ws.getD i 0, 0) := by
  obtain ⟨p, hp⟩ := List.getElem?_of_mem hj
  obtain ⟨h1, h2⟩ := obj_ren (ex := []) z ok hp
  rw [List.append_nil] at h1
  rw [renW_ptr a e]
  have e' : idxAt now 0 W (toP (n : Int)) = some j := e
  have h1' : idxAt (newF 0 W now met) 1 W (toP ((2 * toK (1 - 0) W now met j : Nat) : Int)) = some p := h1
  have hg := newF_get (h := 0) (W := W) (os := now) hp
  refine ⟨h2, ?_, ?_, fun i hi => ⟨?_, ?_⟩⟩
  · unfold lookX; simp only [e']; rfl
  · unfold lookX; simp only [h1', obN_of hg, renO_len]; rfl
  · unfold loadX; simp only [e']; rw [if_pos (show i < (obN now j).ws.length from hi)]; rfl
  · unfold loadX; simp only [h1', obN_of hg, renO_len]; rw [if_pos hi]
theorem fol_ren (z : WF W 0 now old) (ok : Okm now met) (gd : ∀ j ∈ met, ∀ n ∈ tagW now j, Good now 0 W met n) : ∀ (ys : List Int) (n : Nat), Good now 0 W met n → Good now 0 W met (folW 0 W ⟨now, o1⟩ n ys).1 ∧ (folW 0 W ⟨now, o1⟩ n ys).2 = true ∧ folW 1 W ⟨newF 0 W now met, o2⟩ (renW 0 W now met n) ys = (renW 0 W now met (folW 0 W ⟨now, o1⟩ n ys).1, true)
  | [], n, g => ⟨g, rfl, rfl⟩
  | y :: ys, n, g => by
    rcases g with a | ⟨a, j, e, hj⟩
    · unfold folW
      rw [if_pos a, renW_int a, if_pos a]
      exact ⟨.inl a, rfl, rfl⟩
    · obtain ⟨h0, h1, h2, h3⟩ := good_look (o1 := o1) (o2 := o2) z ok a e hj
      have ho := obAt_get (ok.lt j hj)
      have htl := right_bd (z.okn _ (List.mem_of_getElem? ho)).right
      unfold folW
      rw [if_neg a, if_neg h0]
      simp only [h1, h2]
      simp only [ne_eq, not_true_eq_false, if_false]
      by_cases ht : (obAt now j).t = 0
      · rw [if_pos ht, if_pos ht]
        exact ⟨.inr ⟨a, j, e, hj⟩, rfl, rfl⟩
      · rw [if_neg ht, if_neg ht]
        have em0 := Int.emod_nonneg y (show (((obAt now j).t : Nat) : Int) ≠ 0 by omega)
        have em1 := Int.emod_lt_of_pos y (show (0 : Int) < (((obAt now j).t : Nat) : Int) by omega)
        obtain ⟨r, hr⟩ : ∃ r : Nat, y % (((obAt now j).t : Nat) : Int) = r := ⟨(y % (((obAt now j).t : Nat) : Int)).toNat, by rw [Int.toNat_of_nonneg em0]⟩
        rw [hr] at em1
        rw [hr, Int.toNat_natCast]
        obtain ⟨h4, h5⟩ := h3 r (by omega)
        rw [h4, h5]
        simp only [not_true_eq_false, if_false]
        rw [ren_lo (by omega) (by omega)]
        refine fol_ren z ok gd ys _ (gd j hj _ ?_)
        rw [tagW_eq ho, List.getD_eq_getElem?_getD, List.getElem?_eq_getElem (by omega)]
        exact List.mem_take_iff_getElem.2 ⟨r, by omega, rfl⟩
theorem objOf_zero (now : List Ob) (h W : Nat) : objOf now h W 0 = none := by
  cases e : objOf now h W 0 with
  | none => rfl
  | some j => exact absurd rfl (toP_idx e)
theorem renW_zero : renW 0 W now met 0 = 0 := by
  unfold renW
  rw [if_neg (by decide), objOf_zero]
/-- nothing, or a good word -/
def GoodZ (now : List Ob) (W : Nat) (met : List Nat) (n : Nat) : Prop := n = 0 ∨ Good now 0 W met n
/-- a way from the roots, ahead and behind -/
theorem folR_ren (z : WF W 0 now old) (e : reach now 0 W ns = some met) (ys : List Int) : GoodZ now W met (folR 0 W ⟨now, o1⟩ ns ys).1 ∧ ((folR 0 W ⟨now, o1⟩ ns ys).2 = true → Good now 0 W met (folR 0 W ⟨now, o1⟩ ns ys).1) ∧ folR 1 W ⟨newF 0 W now met, o2⟩ (ns.map (renW 0 W now met)) ys = (renW 0 W now met (folR 0 W ⟨now, o1⟩ ns ys).1, (folR 0 W ⟨now, o1⟩ ns ys).2) := by
  have ok := reach_okm e
  obtain ⟨g1, g2⟩ := reach_good e
  unfold folR
  rw [List.length_map]
  by_cases hc : ns.length = 0 ∨ ys.length = 0
  · rw [if_pos hc, if_pos hc]
    refine ⟨.inl rfl, fun q => (by cases q), ?_⟩
    show ((0 : Nat), false) = (renW 0 W now met 0, false)
    rw [renW_zero]
  · rw [if_neg hc, if_neg hc]
    have em0 := Int.emod_nonneg (ys.getD 0 0) (show ((ns.length : Nat) : Int) ≠ 0 by omega)
    have em1 := Int.emod_lt_of_pos (ys.getD 0 0) (show (0 : Int) < ((ns.length : Nat) : Int) by omega)
    obtain ⟨r, hr⟩ : ∃ r : Nat, (ys.getD 0 0) % ((ns.length : Nat) : Int) = r := ⟨((ys.getD 0 0) % ((ns.length : Nat) : Int)).toNat, by rw [Int.toNat_of_nonneg em0]⟩
    rw [hr] at em1
    rw [hr, Int.toNat_natCast]
    have hrl : r < ns.length := by omega
    have hmem : ns.getD r 0 ∈ ns := by rw [List.getD_eq_getElem?_getD, List.getElem?_eq_getElem hrl]; exact List.getElem_mem hrl
    have hm : (ns.map (renW 0 W now met)).getD r 0 = renW 0 W now met (ns.getD r 0) := by
      rw [List.getD_eq_getElem?_getD, List.getD_eq_getElem?_getD, List.getElem?_map, List.getElem?_eq_getElem hrl]; rfl
    obtain ⟨a1, a2, a3⟩ := fol_ren (o1 := o1) (o2 := o2) z ok g2 ((ys.take 60).drop 1) _ (g1 _ hmem)
    rw [hm, a3, a2]
    exact ⟨.inr a1, fun _ => a1, rfl⟩
/-- renewed words are the same just if the words are -/
theorem renW_inj (ok : Okm now met) {a b : Nat} (ga : GoodZ now W met a) (gb : GoodZ now W met b) : renW 0 W now met a = renW 0 W now met b ↔ a = b := by
  have key : ∀ {n : Nat}, Good now 0 W met n → (n % 2 = 1 ∧ renW 0 W now met n = n) ∨ (n % 2 ≠ 1 ∧ ∃ p j, met[p]? = some j ∧ objOf now 0 W n = some j ∧ renW 0 W now met n = 2 * toK (1 - 0) W now met j ∧ (n : Int) = 2 * toP n ∧ 1 ≤ toK (1 - 0) W now met j) := fun {n} g => by
    rcases g with q | ⟨q, j, e, hj⟩
    · exact .inl ⟨q, renW_int q⟩
    · obtain ⟨p, hp⟩ := List.getElem?_of_mem hj
      have hip := isPtrB_of.1 (isPtr_good e)
      have ht := toK_pos (1 - 0) W now met j
      exact .inr ⟨q, p, j, hp, e, renW_ptr q e, by rw [toP_yes (isPtr_good e)]; omega, by omega⟩
  constructor
  · intro h
    rcases ga with rfl | ga <;> rcases gb with rfl | gb
    · rfl
    · rw [renW_zero] at h
      rcases key gb with ⟨q, e⟩ | ⟨q, p, j, _, _, e, _, ht⟩ <;> omega
    · rw [renW_zero] at h
      rcases key ga with ⟨q, e⟩ | ⟨q, p, j, _, _, e, _, ht⟩ <;> omega
    · rcases key ga with ⟨q, e⟩ | ⟨q, p, j, hp, ho, e, hn, ht⟩ <;> rcases key gb with ⟨q', e'⟩ | ⟨q', p', j', hp', ho', e', hn', ht'⟩
      · omega
      · omega
      · omega
      · have h1 := toK_at (k := 1 - 0) (W := W) (os := now) ok.nd hp
        have h2 := toK_at (k := 1 - 0) (W := W) (os := now) ok.nd hp'
        have h3 : toK (1 - 0) W now met j = toK (1 - 0) W now met j' := by omega
        rw [h3] at h1
        have h4 := adr_inj (h1.symm.trans h2)
        rw [← start_pick, ← start_pick] at h4
        have hpl := (List.getElem?_eq_some_iff.1 hp).1
        have hpl' := (List.getElem?_eq_some_iff.1 hp').1
        have h5 : p = p' := start_inj (pick now met) (by rw [pick_length]; exact hpl) (by rw [pick_length]; exact hpl') (by omega)
        subst h5
        rw [hp] at hp'
        obtain rfl := Option.some.inj hp'
        have h6 := (idxAt_some ho).2
        have h7 := (idxAt_some ho').2
        omega
  · rintro rfl; rfl
/-- a good word is like its fellow -/
theorem alike_good (z : WF W 0 now old) (ok : Okm now met) {n : Nat} (g : Good now 0 W met n) : AlikeP W 0 1 ⟨now, o1⟩ ⟨newF 0 W now met, o2⟩ n (renW 0 W now met n) := by
  rcases g with a | ⟨a, j, e, hj⟩
  · exact ⟨fun _ => (renW_int a).symm, fun q => absurd a q, fun q => absurd a q⟩
  · obtain ⟨h0, h1, h2, h3⟩ := good_look (o1 := o1) (o2 := o2) z ok a e hj
    have ho := obAt_get (ok.lt j hj)
    have htl := right_bd (z.okn _ (List.mem_of_getElem? ho)).right
    refine ⟨fun q => by rcases q with q | q <;> omega, fun _ _ => ⟨by rw [h1, h2], by rw [h1]⟩, fun _ _ i hi hc => ?_⟩
    rw [h1] at hi hc
    obtain ⟨h4, h5⟩ := h3 i hi
    rw [h4, h5] at hc ⊢
    simp only at hc hi ⊢
    by_cases ht : i < (obAt now j).t
    · rw [ren_lo ht hi] at hc ⊢
      rcases hc with q | q | q
      · omega
      · rw [renW_int q]
      · by_cases hx : (obAt now j).ws.getD i 0 % 2 = 1
        · rw [renW_int hx]
        · exfalso
          unfold renW at q
          rw [if_neg hx] at q
          split at q <;> omega
    · rw [ren_hi (by omega) (by omega)]
end
end Go.Proofs.Ytjdhjehnofediaa
