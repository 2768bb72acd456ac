/- GcTwice's reckoning: a second collection moves everything back, in its order. Conditions: none. -/
import Derived.Test.YtjdhjehnofediaaGcAl
namespace Go.Proofs.Ytjdhjehnofediaa
open Go Go.RowKit
section
variable {now old o1 o2 : List Ob} {W h : Nat} {met ns : List Nat}
theorem ren_loG {o : Ob} {i : Nat} (hi : i < o.t) (hl : i < o.ws.length) : (renO h W now met o o.t).ws.getD i 0 = renW h W now met (o.ws.getD i 0) := by
  show (((o.ws.take o.t).map (renW h W now met)) ++ o.ws.drop o.t).getD i 0 = _
  rw [List.getD_eq_getElem?_getD, List.getD_eq_getElem?_getD, List.getElem?_append_left (by simp; omega), List.getElem?_map, List.getElem?_take, if_pos hi, List.getElem?_eq_getElem hl]
  rfl
theorem ren_hiG {o : Ob} {i : Nat} (hi : o.t ≤ i) (ht : o.t ≤ o.ws.length) : (renO h W now met o o.t).ws.getD i 0 = o.ws.getD i 0 := by
  show (((o.ws.take o.t).map (renW h W now met)) ++ o.ws.drop o.t).getD i 0 = _
  rw [List.getD_eq_getElem?_getD, List.getD_eq_getElem?_getD, List.getElem?_append_right (by simp; omega), List.length_map, List.length_take, Nat.min_eq_left ht, List.getElem?_drop, show o.t + (i - o.t) = i by omega]
theorem good_lookG (z : WF W h now old) (ok : Okm now met) {n j : Nat} (a : n % 2 ≠ 1) (e : objOf now h W n = some j) (hj : j ∈ met) :
    renW h W now met n % 2 ≠ 1 ∧ lookX h W ⟨now, o1⟩ (toP n) = ((obAt now j).k, (obAt now j).ws.length, (obAt now j).t, 0) ∧ lookX (1 - h) W ⟨newF h W now met, o2⟩ (toP (renW h W now met n : Nat)) = ((obAt now j).k, (obAt now j).ws.length, (obAt now j).t, 0) ∧
    ∀ i, i < (obAt now j).ws.length → loadX h W ⟨now, o1⟩ (toP n) i = ((obAt now j).ws.getD i 0, 0) ∧ loadX (1 - h) W ⟨newF h W now met, o2⟩ (toP (renW h W now met n : Nat)) i = ((renO h W now met (obAt now j) (obAt now j).t).ws.getD i 0, 0) := by
  obtain ⟨p, hp⟩ := List.getElem?_of_mem hj
  obtain ⟨h1, h2⟩ := obj_ren (ex := []) z ok hp
  rw [List.append_nil] at h1
  rw [renW_ptr a e]
  have e' : idxAt now h W (toP (n : Int)) = some j := e
  have h1' : idxAt (newF h W now met) (1 - h) W (toP ((2 * toK (1 - h) W now met j : Nat) : Int)) = some p := h1
  have hg := newF_get (h := h) (W := W) (os := now) hp
  refine ⟨h2, ?_, ?_, fun i hi => ⟨?_, ?_⟩⟩
  · unfold lookX; simp only [e']; rfl
  · unfold lookX; simp only [h1', obN_of hg, renO_len]; rfl
  · unfold loadX; simp only [e']; rw [if_pos (show i < (obN now j).ws.length from hi)]; rfl
  · unfold loadX; simp only [h1', obN_of hg, renO_len]; rw [if_pos hi]
theorem alike_goodG (z : WF W h now old) (ok : Okm now met) {n : Nat} (g : Good now h W met n) : AlikeP W h (1 - h) ⟨now, o1⟩ ⟨newF h W now met, o2⟩ n (renW h W now met n) := by
  rcases g with a | ⟨a, j, e, hj⟩
  · exact ⟨fun _ => (renW_int a).symm, fun q => absurd a q, fun q => absurd a q⟩
  · obtain ⟨h0, h1, h2, h3⟩ := good_lookG (o1 := o1) (o2 := o2) z ok a e hj
    have ho := obAt_get (ok.lt j hj)
    have htl := right_bd (z.okn _ (List.mem_of_getElem? ho)).right
    refine ⟨fun q => by rcases q with q | q <;> omega, fun _ _ => ⟨by rw [h1, h2], by rw [h1]⟩, fun _ _ i hi hc => ?_⟩
    rw [h1] at hi hc
    obtain ⟨h4, h5⟩ := h3 i hi
    rw [h4, h5] at hc ⊢
    simp only at hc hi ⊢
    by_cases ht : i < (obAt now j).t
    · rw [ren_loG ht hi] at hc ⊢
      rcases hc with q | q | q
      · omega
      · rw [renW_int q]
      · by_cases hx : (obAt now j).ws.getD i 0 % 2 = 1
        · rw [renW_int hx]
        · exfalso
          unfold renW at q
          rw [if_neg hx] at q
          split at q <;> omega
    · rw [ren_hiG (by omega) (by omega)]
theorem pick_range (os : List Ob) : pick os (List.range os.length) = os := by
  apply List.ext_getElem
  · simp [pick]
  · intro i h1 h2
    simp [pick, obAt, h2]
theorem okm_range (os : List Ob) : Okm os (List.range os.length) := ⟨List.nodup_range, fun _ hj => List.mem_range.1 hj⟩
/-- where the second collection moves an object of the first -/
theorem tw_to (ok : Okm now met) {p j : Nat} (hj : met[p]? = some j) : ((toK 0 W (newF 0 W now met) (List.range met.length) p : Nat) : Int) + W = ((toK 1 W now met j : Nat) : Int) := by
  have hp := (List.getElem?_eq_some_iff.1 hj).1
  have hl : (newF 0 W now met).length = met.length := newF_length _ _ _ _
  have hr : (List.range (newF 0 W now met).length)[p]? = some p := by rw [List.getElem?_range (by omega)]
  rw [toK_at ok.nd hj, ← hl, toK_at List.nodup_range hr, ← start_pick, ← start_pick, pick_range, start_congr (sz_newF 0 W now met), adr_0, adr_1]
  omega
theorem toP_two {t : Nat} (h0 : t ≠ 0) (h1 : t ≤ 1099511627776) : toP ((2 * t : Nat) : Int) = t := by
  unfold toP
  rw [if_pos (by omega)]
  omega
/-- a good word, behind the first collection and behind the second -/
theorem tw_word (z : WF W 0 now old) (ok : Okm now met) {od : List Ob} (z1 : WF W 1 (newF 0 W now met) od) {n : Nat} (g : Good now 0 W met n) :
    (renW 0 W now met n % 2 = 1 ∧ renW 1 W (newF 0 W now met) (List.range met.length) (renW 0 W now met n) = renW 0 W now met n) ∨
    (renW 0 W now met n % 2 ≠ 1 ∧ toP ((renW 1 W (newF 0 W now met) (List.range met.length) (renW 0 W now met n) : Nat) : Int) + W = toP ((renW 0 W now met n : Nat) : Int)) := by
  rcases g with a | ⟨a, j, e, hj⟩
  · left
    rw [renW_int a]
    exact ⟨a, renW_int a⟩
  · right
    obtain ⟨p, hp⟩ := List.getElem?_of_mem hj
    have hpl := (List.getElem?_eq_some_iff.1 hp).1
    obtain ⟨h1, h2⟩ := obj_ren (ex := []) z ok hp
    rw [List.append_nil] at h1
    have hl : (newF 0 W now met).length = met.length := newF_length _ _ _ _
    have ok1 := okm_range (newF 0 W now met)
    rw [hl] at ok1
    have b1 := toK_le' (k := 1) z.fresh ok z.un z.w1 hj
    have b2 := toK_le' (k := 0) z1.fresh ok1 z1.un z1.w1 (List.mem_range.2 hpl)
    have c1 := toK_pos 1 W now met j
    have c2 := toK_pos 0 W (newF 0 W now met) (List.range met.length) p
    rw [renW_ptr a e]
    refine ⟨h2, ?_⟩
    rw [renW_ptr h2 h1]
    show toP ((2 * toK 0 W (newF 0 W now met) (List.range met.length) p : Nat) : Int) + W = toP ((2 * toK 1 W now met j : Nat) : Int)
    rw [toP_two c2 (by omega), toP_two c1 (by omega)]
    exact tw_to ok hp
/-- an object's address of the first collection, and its fellow's of the second -/
theorem tw_alike {od : List Ob} (ok : Okm now met) (z1 : WF W 1 (newF 0 W now met) od) {x : Nat} (hx : x < met.length) :
    ∃ u v : Nat, ptrW (objA 1 W (newF 0 W now met) x) = u ∧ ptrW (objA 1 W (newF 0 W now met) x - W) = v ∧ u < 18446744073709551616 ∧ v < 18446744073709551616 ∧ AlikeP W 1 0 ⟨newF 0 W now met, o1⟩ ⟨newF 1 W (newF 0 W now met) (List.range met.length), o2⟩ u v := by
  have hl : (newF 0 W now met).length = met.length := newF_length _ _ _ _
  have ok1 := okm_range (newF 0 W now met)
  rw [hl] at ok1
  obtain ⟨j, hj⟩ : ∃ j, met[x]? = some j := ⟨_, List.getElem?_eq_getElem hx⟩
  have hr : (List.range met.length)[x]? = some x := by rw [List.getElem?_range hx]
  have e1 : objA 1 W (newF 0 W now met) x = ((toK 1 W now met j : Nat) : Int) := by
    unfold objA
    rw [toK_at ok.nd hj, ← start_pick, start_congr (sz_newF 0 W now met)]
  have e2 := tw_to (W := W) ok hj
  have b2 := toK_le' (k := 0) z1.fresh ok1 z1.un z1.w1 (List.mem_range.2 hx)
  have c1 := toK_pos 1 W now met j
  have c2 := toK_pos 0 W (newF 0 W now met) (List.range met.length) x
  have hob : objOf (newF 0 W now met) 1 W (2 * toK 1 W now met j) = some x := by
    unfold objOf
    rw [toP_two c1 (by have := z1.w1; omega), ← e1]
    exact idxAt_of (by omega)
  have hev : (2 * toK 1 W now met j) % 2 ≠ 1 := by omega
  refine ⟨2 * toK 1 W now met j, renW 1 W (newF 0 W now met) (List.range met.length) (2 * toK 1 W now met j), ?_, ?_, by have := z1.w1; omega, ?_, alike_goodG z1 ok1 (.inr ⟨hev, x, hob, List.mem_range.2 hx⟩)⟩
  · rw [e1]; unfold ptrW; rw [if_pos (by have := z1.w1; omega)]; omega
  · rw [renW_ptr hev hob, e1]
    show _ = ((2 * toK 0 W (newF 0 W now met) (List.range met.length) x : Nat) : Int)
    unfold ptrW; rw [if_pos (by omega)]; omega
  · rw [renW_ptr hev hob]
    show 2 * toK 0 W (newF 0 W now met) (List.range met.length) x < _
    omega
end
end Go.Proofs.Ytjdhjehnofediaa
