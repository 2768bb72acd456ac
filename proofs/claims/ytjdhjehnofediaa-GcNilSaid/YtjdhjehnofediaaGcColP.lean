/- The contract of gc's Collect: what can be reached lies in the other half, in its order, each tagged word renewed. Conditions: the memory lies as Mem says; the roots are words that are none of the memory's own. -/
import Derived.Test.YtjdhjehnofediaaGcColW
import Derived.Test.YtjdhjehnofediaaGcColM
namespace Go.Proofs.Ytjdhjehnofediaa
open Go Go.RowKit
theorem obN_at (os : List Ob) (j : Nat) : obN os j = obAt os j := rfl
section
variable {h W : Nat} {now old : List Ob} {met : List Nat}
theorem other2 (hh : h < 2) : 1 - (1 - h) = h := by omega
theorem metI_at {p j : Nat} (hj : met[p]? = some j) : (metI h W now met).getD p 0 = objA h W now j := by rw [List.getD_eq_getElem?_getD, metI_get hj]; rfl
/-- the objects are moved -/
theorem phase1 (z : WF W h now old) (ok : Okm now met) : ∀ p, p ≤ met.length → mvP (1 - h) W (metI h W now met) ⟨[], now⟩ (List.range p) = (⟨pick now (met.take p), oldK (1 - h) W now met (met.take p)⟩, (met.take p).map fun j => ((toK (1 - h) W now met j : Nat) : Int)) := by
  intro p
  induction p with
  | zero => intro _; rw [List.take_zero, oldK_nil]; rfl
  | succ p ih =>
    intro hp
    obtain ⟨j, hj⟩ : ∃ j, met[p]? = some j := ⟨_, List.getElem?_eq_getElem (by omega)⟩
    have hjl := ok.lt j (List.mem_of_getElem? hj)
    have ho := obAt_get hjl
    rw [List.range_succ, mvP_snoc, ih (by omega), metI_at hj]
    have hidx : idxAt (oldK (1 - h) W now met (met.take p)) (1 - (1 - h)) W (objA h W now j) = some j := by
      rw [idxAt_congr (sz_oldK _ _ _ _ _), other2 z.hh]
      exact idxAt_of hjl
    have hob : obN (oldK (1 - h) W now met (met.take p)) j = obAt now j := by
      refine obN_of ?_
      rw [oldK_get ho, if_neg (nodup_take ok.nd hj)]
    have hto : (obAt now j).to = 0 := z.fresh _ (List.mem_of_getElem? ho)
    have hfit := moved_fits (k := 1 - h) z.fresh ok hj z.un
    have hT : (adr (1 - h) W (used (pick now (met.take p)) : Nat)).toNat = toK (1 - h) W now met j := by
      have := toK_at (k := 1 - h) (W := W) (os := now) ok.nd hj
      omega
    have e1 : movedX (1 - h) W ⟨pick now (met.take p), oldK (1 - h) W now met (met.take p)⟩ (objA h W now j) = ⟨pick now (met.take (p + 1)), oldK (1 - h) W now met (met.take (p + 1))⟩ := by
      unfold movedX
      simp only [hidx, hob]
      rw [if_neg (by omega), if_neg (by omega), hT, take_snoc hj, pick_snoc, ← oldK_put ho]
    have e2 : (moveX (1 - h) W ⟨pick now (met.take p), oldK (1 - h) W now met (met.take p)⟩ (objA h W now j)).1 = toK (1 - h) W now met j := by
      unfold moveX
      simp only [hidx, hob]
      rw [if_neg (by omega), if_neg (by omega), hT]
    simp only [e1, e2]
    rw [take_snoc hj, List.map_append]
    rfl
theorem toP_idx {os : List Ob} {n j : Nat} (e : objOf os h W n = some j) : toP (n : Int) ≠ 0 := by
  have := (idxAt_some e).2
  have h2 := adr_pos h W (start os j)
  omega
theorem isPtr_good {os : List Ob} {n j : Nat} (e : objOf os h W n = some j) : isPtrB (n : Int) = true := by
  have h1 := toP_idx e
  cases q : isPtrB (n : Int) with
  | true => rfl
  | false => exact absurd (toP_no q) h1
/-- a good word, renewed behind the moves -/
theorem renX_good (z : WF W h now old) (ok : Okm now met) {nw : List Ob} {n : Nat} (g : Good now h W met n) :
    renS (1 - h) W ⟨nw, oldK (1 - h) W now met met⟩ n = ⟨nw, oldK (1 - h) W now met met⟩ ∧ renV (1 - h) W ⟨nw, oldK (1 - h) W now met met⟩ n = renW h W now met n := by
  rcases g with a | ⟨a, j, e, hj⟩
  · unfold renS renV renW
    rw [if_pos a, if_pos a, if_pos a]
    exact ⟨rfl, rfl⟩
  · have ho := obAt_get (ok.lt j hj)
    have hidx : idxAt (oldK (1 - h) W now met met) (1 - (1 - h)) W (toP (n : Int)) = some j := by
      rw [idxAt_congr (sz_oldK _ _ _ _ _), other2 z.hh]
      exact e
    have hob : obN (oldK (1 - h) W now met met) j = ⟨(obAt now j).k, (obAt now j).t, (obAt now j).ws, toK (1 - h) W now met j⟩ := by
      refine obN_of ?_
      rw [oldK_get ho, if_pos hj]
    have ht := toK_pos (1 - h) W now met j
    have hle := toK_le' (k := 1 - h) z.fresh ok z.un z.w1 hj
    unfold renS renV
    rw [if_neg a, if_neg a, renW_ptr a e]
    unfold movedX moveX
    simp only [hidx, hob]
    rw [if_pos ht, if_pos ht]
    refine ⟨rfl, ?_⟩
    show (ptrW ((toK (1 - h) W now met j : Nat) : Int)).toNat = _
    rw [ptrW_in (by omega) (by omega)]
    omega
/-- the fields of an object are renewed -/
theorem phase2o (z : WF W h now old) (ok : Okm now met) (gd : ∀ j ∈ met, ∀ n ∈ tagW now j, Good now h W met n) {p j : Nat} (hj : met[p]? = some j) : ∀ k, k ≤ (obAt now j).t → rnO (1 - h) W ((toK (1 - h) W now met j : Nat) : Int) ⟨newK h W now met p, oldK (1 - h) W now met met⟩ k = ⟨(newK h W now met p).set p (renO h W now met (obAt now j) k), oldK (1 - h) W now met met⟩ := by
  have hjm := List.mem_of_getElem? hj
  have hjl := ok.lt j hjm
  have ho := obAt_get hjl
  have htl := right_bd (z.okn _ (List.mem_of_getElem? ho)).right
  have hpm := (List.getElem?_eq_some_iff.1 hj).1
  have hA : ((toK (1 - h) W now met j : Nat) : Int) = adr (1 - h) W (start (pick now met) p : Nat) := by rw [toK_at ok.nd hj, start_pick]
  have hidx : ∀ k, idxAt ((newK h W now met p).set p (renO h W now met (obAt now j) k)) (1 - h) W ((toK (1 - h) W now met j : Nat) : Int) = some p := fun k => by
    rw [idxAt_congr (sz_set_ren hj), hA]
    exact idxAt_of (by rw [pick_length]; exact hpm)
  have hget : ∀ k, obN ((newK h W now met p).set p (renO h W now met (obAt now j) k)) p = renO h W now met (obAt now j) k := fun k => by
    refine obN_of ?_
    rw [List.getElem?_set_self (by simp [newK]; exact hpm)]
  intro k
  induction k with
  | zero =>
    intro _
    rw [renO_zero]
    have hs : (newK h W now met p).set p (obAt now j) = newK h W now met p := by
      have hg := newK_get (h := h) (W := W) (os := now) hj (Nat.le_refl p)
      obtain ⟨hl, e⟩ := List.getElem?_eq_some_iff.1 hg
      rw [← e]
      exact List.set_getElem_self hl
    rw [hs]
    rfl
  | succ k ih =>
    intro hk
    have hkl : k < (obAt now j).ws.length := by omega
    rw [rnO_succ, ih (by omega)]
    have hld : (loadX (1 - h) W ⟨(newK h W now met p).set p (renO h W now met (obAt now j) k), oldK (1 - h) W now met met⟩ ((toK (1 - h) W now met j : Nat) : Int) k).1 = (obAt now j).ws.getD k 0 := by
      unfold loadX
      simp only [hidx, hget, renO_len]
      rw [if_pos hkl]
      exact renO_get hkl
    have hg : Good now h W met ((obAt now j).ws.getD k 0) := by
      refine gd j hjm _ ?_
      rw [tagW_eq ho, List.getD_eq_getElem?_getD, List.getElem?_eq_getElem hkl]
      exact List.mem_take_iff_getElem.2 ⟨k, by omega, rfl⟩
    unfold rnF
    rw [hld]
    obtain ⟨hS, hV⟩ := renX_good z ok (nw := (newK h W now met p).set p (renO h W now met (obAt now j) k)) hg
    rw [hS, hV]
    rcases hg with a | ⟨a, i, e, hi⟩
    · rw [isPtr_no (by omega)]
      simp only [Bool.false_eq_true, if_false]
      rw [renO_same hkl (renW_int a)]
    · rw [isPtr_good e]
      simp only [if_true]
      unfold storeX
      simp only [hidx, hget, renO_len]
      rw [if_pos hkl, renO_set hkl, List.set_set]
/-- the objects are renewed -/
theorem phase2 (z : WF W h now old) (ok : Okm now met) (gd : ∀ j ∈ met, ∀ n ∈ tagW now j, Good now h W met n) : ∀ p, p ≤ met.length → rnS (1 - h) W (met.map fun j => ((toK (1 - h) W now met j : Nat) : Int)) ⟨pick now met, oldK (1 - h) W now met met⟩ (List.range p) = ⟨newK h W now met p, oldK (1 - h) W now met met⟩ := by
  intro p
  induction p with
  | zero => intro _; rw [newK_zero]; rfl
  | succ p ih =>
    intro hp
    obtain ⟨j, hj⟩ : ∃ j, met[p]? = some j := ⟨_, List.getElem?_eq_getElem (by omega)⟩
    have hA : ((toK (1 - h) W now met j : Nat) : Int) = adr (1 - h) W (start (pick now met) p : Nat) := by rw [toK_at ok.nd hj, start_pick]
    have hz : (met.map fun j => ((toK (1 - h) W now met j : Nat) : Int)).getD p 0 = ((toK (1 - h) W now met j : Nat) : Int) := by
      rw [List.getD_eq_getElem?_getD, List.getElem?_map, hj]; rfl
    rw [List.range_succ, rnS_snoc, ih (by omega), hz]
    have hidx : idxAt (newK h W now met p) (1 - h) W ((toK (1 - h) W now met j : Nat) : Int) = some p := by
      rw [idxAt_congr (sz_newK h W now met p), hA]
      exact idxAt_of (by rw [pick_length]; omega)
    have hlk : (lookX (1 - h) W ⟨newK h W now met p, oldK (1 - h) W now met met⟩ ((toK (1 - h) W now met j : Nat) : Int)).2.2.1 = (obAt now j).t := by
      unfold lookX
      simp only [hidx]
      rw [obN_of (newK_get hj (Nat.le_refl p))]
    rw [hlk, phase2o z ok gd hj _ (Nat.le_refl _), newK_put hj]
theorem phase3 (z : WF W h now old) (ok : Okm now met) (nw : List Ob) : ∀ (ns : List Nat), (∀ n ∈ ns, Good now h W met n) → rtP (1 - h) W ⟨nw, oldK (1 - h) W now met met⟩ ns = (⟨nw, oldK (1 - h) W now met met⟩, ns.map (renW h W now met)) := by
  have gen : ∀ (ns r : List Nat), (∀ n ∈ ns, Good now h W met n) → ns.foldl (fun (p : St × List Nat) n => (renS (1 - h) W p.1 n, p.2 ++ [renV (1 - h) W p.1 n])) (⟨nw, oldK (1 - h) W now met met⟩, r) = (⟨nw, oldK (1 - h) W now met met⟩, r ++ ns.map (renW h W now met)) := by
    intro ns
    induction ns with
    | nil => intro r _; simp
    | cons n ns ih =>
      intro r hg
      obtain ⟨hS, hV⟩ := renX_good z ok (nw := nw) (hg n (by simp))
      rw [List.foldl_cons]
      simp only [hS, hV]
      rw [ih _ (fun x hx => hg x (List.mem_cons_of_mem _ hx))]
      simp
  intro ns hg
  have := gen ns [] hg
  simpa [rtP] using this
/-- the memory behind a collection -/
theorem colS3_eq (z : WF W h now old) {ns : List Nat} (e : reach now h W ns = some met) : colS3 h W now met ns = (⟨newF h W now met, oldK (1 - h) W now met met⟩, ns.map (renW h W now met)) := by
  have ok := reach_okm e
  obtain ⟨g1, g2⟩ := reach_good e
  have p1 := phase1 z ok met.length (Nat.le_refl _)
  rw [List.take_length] at p1
  have p2 := phase2 z ok g2 met.length (Nat.le_refl _)
  unfold colS3 colS2 colS1
  rw [p1, p2, newK_end]
  exact phase3 z ok _ ns g1
end
/-- what Collect leaves -/
def Collected (w : World) (b W h : Nat) (R : Nat → Value) (now : List Ob) (ns : List Nat) (e : Ending) (w' : World) : Prop :=
  (reach now h W ns = none ∧ e = .returned (.tuple #[.slice none 0 0, .int .i64 40]) ∧ Below w.heap.size w w') ∨
  (∃ met v R', reach now h W ns = some met ∧ e = .returned (.tuple #[v, .int .i64 0]) ∧ MX w (Own b R) b W (1 - h) ⟨newF h W now met, oldK (1 - h) W now met met⟩ w' R' ∧ w'.ownsRow w.heap.size 56 1 v ns.length (u64s (ns.map (renW h W now met))) ∧ ∀ g, v.ownBlock = some g → ¬ Own b R' g)
theorem collect_any {w : World} {b W h : Nat} {R : Nat → Value} {now old : List Ob} (m : Mem w b W h R now old) (z : WF W h now old) {a : Option Addr} {N c : Nat} {ns : List Nat} (hv : WordsV w a N ns) (hN : ∀ (g off : Nat), a = some ⟨g, off, none⟩ → ¬ Own b R g) (hN1 : N ≤ 1000) :
    Calls Try.prog 19 #[.pointer (some ⟨b, 0, none⟩), .slice a N c] w (Collected w b W h R now ns) := by
  refine (collectX_any m z hv hN hN1).mono ?_
  rintro e w' (q | ⟨met, v, R', hr, he, x, ho, hg⟩)
  · exact .inl q
  · rw [colS3_eq z hr] at x ho
    exact .inr ⟨met, v, R', hr, he, x, ho, hg⟩
end Go.Proofs.Ytjdhjehnofediaa
