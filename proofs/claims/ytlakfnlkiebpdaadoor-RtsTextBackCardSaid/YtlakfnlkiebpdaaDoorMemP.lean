/- Plain mathematics: what a change of one object does to the cells. Conditions: none. -/
import Derived.Test.YtlakfnlkiebpdaaDoorMemO
namespace Go.Proofs.YtlakfnlkiebpdaaDoor
open Go Go.RowKit
def sz (os : List Ob) : List Nat := os.map fun o => o.ws.length
theorem used_sz (os : List Ob) : used os = ((sz os).map (1 + ·)).sum := by
  unfold used sz; rw [List.map_map]; rfl
theorem sz_take (os : List Ob) (j : Nat) : sz (os.take j) = (sz os).take j := by unfold sz; rw [List.map_take]
theorem start_congr {a c : List Ob} (h : sz a = sz c) (j : Nat) : start a j = start c j := by
  unfold start; rw [used_sz, used_sz, sz_take, sz_take, h]
theorem used_congr {a c : List Ob} (h : sz a = sz c) : used a = used c := by rw [used_sz, used_sz, h]
theorem len_congr {a c : List Ob} (h : sz a = sz c) : a.length = c.length := by
  have := congrArg List.length h
  simpa [sz] using this
theorem marksL_congr {a c : List Ob} (h : sz a = sz c) : marksL a = marksL c := by
  unfold marksL
  rw [len_congr h]
  congr 1
  exact List.map_congr_left fun j _ => start_congr h j
theorem idxAt_congr {a c : List Ob} (h : sz a = sz c) (k W : Nat) (x : Int) : idxAt a k W x = idxAt c k W x := by
  unfold idxAt
  rw [len_congr h]
  congr 1
  funext j
  rw [start_congr h]
theorem sz_set {os : List Ob} {j : Nat} {o o' : Ob} (ho : os[j]? = some o) (hl : o'.ws.length = o.ws.length) : sz (os.set j o') = sz os := by
  unfold sz
  rw [List.map_set, hl]
  apply List.ext_getElem?
  intro i
  by_cases e : i = j
  · subst e
    obtain ⟨hj, rfl⟩ := List.getElem?_eq_some_iff.1 ho
    rw [List.getElem?_set_self (by simpa using hj)]
    simp [hj]
  · rw [List.getElem?_set_ne (fun q => e q.symm)]
theorem flat_split {os : List Ob} {j : Nat} (hj : j < os.length) : flat os = flat (os.take j) ++ ((os[j].hw :: os[j].ws) ++ flat (os.drop (j + 1))) := by
  have e : os = os.take j ++ (os[j] :: os.drop (j + 1)) := by rw [← List.drop_eq_getElem_cons hj, List.take_append_drop]
  conv => lhs; rw [e]
  rw [flat_append]; rfl
theorem flat_set {os : List Ob} {j : Nat} (hj : j < os.length) (o' : Ob) : flat (os.set j o') = flat (os.take j) ++ ((o'.hw :: o'.ws) ++ flat (os.drop (j + 1))) := by
  have hj' : j < (os.set j o').length := by simpa using hj
  rw [flat_split hj', List.getElem_set_self, List.take_set_of_le (Nat.le_refl _), List.drop_set_of_lt (Nat.lt_succ_self _)]
theorem flat_set_field {os : List Ob} {j i x : Nat} {o : Ob} (ho : os[j]? = some o) (hi : i < o.ws.length) : flat (os.set j { o with ws := o.ws.set i x }) = (flat os).set (start os j + 1 + i) x := by
  obtain ⟨hj, rfl⟩ := List.getElem?_eq_some_iff.1 ho
  have hl : (flat (os.take j)).length = start os j := by rw [flat_length]; rfl
  rw [flat_set hj, flat_split hj, List.set_append_right _ _ (by omega), hl, show start os j + 1 + i - start os j = i + 1 by omega]
  congr 1
  have e1 : ({ os[j] with ws := os[j].ws.set i x } : Ob).hw = os[j].hw := by simp [Ob.hw]
  rw [e1, List.set_append_left _ _ (by simp; omega)]
  rfl
theorem flat_set_head {os : List Ob} {j t : Nat} {o : Ob} (ho : os[j]? = some o) (ht : t ≠ 0) : flat (os.set j { o with to := t }) = (flat os).set (start os j) (2 * t) := by
  obtain ⟨hj, rfl⟩ := List.getElem?_eq_some_iff.1 ho
  have hl : (flat (os.take j)).length = start os j := by rw [flat_length]; rfl
  rw [flat_set hj, flat_split hj, List.set_append_right _ _ (by omega), hl, Nat.sub_self]
  congr 1
  have e1 : ({ os[j] with to := t } : Ob).hw = 2 * t := by simp [Ob.hw, ht]
  rw [e1, List.set_append_left _ _ (by simp)]
  rfl
theorem MemV.congr {w : World} {b W h : Nat} {R : Nat → Value} {L L' : Nat → List Nat} (m : MemV w b W h R L) (e : ∀ r, r < 4 → L r = L' r) : MemV w b W h R L' :=
  ⟨m.c0, m.c1, m.cr, m.fz, fun r hr => by rw [← e r hr]; exact m.own r hr, m.sep, m.far⟩
theorem rows_upd_now {h : Nat} {now now' old : List Ob} (hs : sz now' = sz now) (r : Nat) : upd (rowsOf h now old) (h * 2) (flat now') r = rowsOf h now' old r := by
  by_cases e : r = h * 2
  · subst e; rw [upd_same, rows_cells, half_now]
  · rw [upd_other _ _ e]
    unfold rowsOf
    by_cases e2 : r / 2 = h
    · have p : ¬ r % 2 = 0 := by omega
      rw [if_neg p, if_neg p, if_pos e2, if_pos e2, marksL_congr hs]
    · rw [if_neg e2, if_neg e2]
theorem rows_upd_old {h k : Nat} {now old old' : List Ob} (hk : k < 2) (hh : h < 2) (hne : k ≠ h) (hs : sz old' = sz old) (r : Nat) (hr : r < 4) : upd (rowsOf h now old) (k * 2) (flat old') r = rowsOf h now old' r := by
  by_cases e : r = k * 2
  · subst e; rw [upd_same, rows_cells, half_old _ _ hne]
  · rw [upd_other _ _ e]
    unfold rowsOf
    by_cases e2 : r / 2 = h
    · rw [if_pos e2, if_pos e2]
    · have p : ¬ r % 2 = 0 := by omega
      rw [if_neg p, if_neg p, if_neg e2, if_neg e2, marksL_congr hs]
end Go.Proofs.YtlakfnlkiebpdaaDoor
