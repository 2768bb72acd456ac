/- Plain mathematics of reaching: words are met, objects are gone through in their order. Conditions: none. -/
import Derived.Test.YtlakfnlkiebpdaaDoorMemI
import Derived.Test.YtlakfnlkiebpdaaDoorNumG
import Derived.Test.YtlakfnlkiebpdaaDoorAmong
namespace Go.Proofs.YtlakfnlkiebpdaaDoor
open Go Go.RowKit
/-- the object that a word is of -/
def objOf (os : List Ob) (h W n : Nat) : Option Nat := idxAt os h W (toP n)
/-- a word is met: the objects that were met then; none: it is not good -/
def meetS (os : List Ob) (h W : Nat) (met : List Nat) (n : Nat) : Option (List Nat) :=
  if n % 2 = 1 then some met else (objOf os h W n).map fun j => if j ∈ met then met else met ++ [j]
/-- words are met, one by one -/
def meetL (os : List Ob) (h W : Nat) : List Nat → List Nat → Option (List Nat)
  | met, [] => some met
  | met, n :: ns => (meetS os h W met n).bind fun m => meetL os h W m ns
/-- the tagged words of the object of a number -/
def tagW (os : List Ob) (j : Nat) : List Nat := match os[j]? with
  | none => []
  | some o => o.ws.take o.t
/-- the objects that were met are gone through from a number on -/
def bfs (os : List Ob) (h W : Nat) : Nat → Nat → List Nat → Option (List Nat)
  | 0, _, met => some met
  | f + 1, i, met => match met[i]? with
    | none => some met
    | some j => (meetL os h W met (tagW os j)).bind fun m => bfs os h W f (i + 1) m
/-- what can be reached from some words, in its order -/
def reach (os : List Ob) (h W : Nat) (roots : List Nat) : Option (List Nat) := (meetL os h W [] roots).bind fun m => bfs os h W (os.length + 1) 0 m
/-- a list of objects, none twice -/
structure Okm (os : List Ob) (met : List Nat) : Prop where
  nd : met.Nodup
  lt : ∀ j ∈ met, j < os.length
section
variable {os : List Ob} {h W : Nat} {met : List Nat}
theorem okm_nil : Okm os [] := ⟨List.nodup_nil, fun _ h => by cases h⟩
theorem nodup_len {l : List Nat} {n : Nat} (hn : l.Nodup) (hl : ∀ j ∈ l, j < n) : l.length ≤ n := by
  induction n generalizing l with
  | zero => cases l with
    | nil => exact Nat.le_refl _
    | cons a l => exact absurd (hl a (by simp)) (by omega)
  | succ n ih =>
    by_cases hm : n ∈ l
    · have h1 := ih (hn.erase n) (fun j hj => by
        have h2 := (hn.mem_erase_iff).1 hj
        have := hl j h2.2
        have := h2.1
        omega)
      rw [List.length_erase_of_mem hm] at h1
      omega
    · have := ih hn (fun j hj => by
        have := hl j hj
        have : j ≠ n := fun e => hm (e ▸ hj)
        omega)
      omega
theorem Okm.len (k : Okm os met) : met.length ≤ os.length := nodup_len k.nd k.lt
theorem objOf_lt {n j : Nat} (e : objOf os h W n = some j) : j < os.length := (idxAt_some e).1
theorem Okm.snoc (k : Okm os met) {j : Nat} (hj : j < os.length) (hn : j ∉ met) : Okm os (met ++ [j]) := by
  refine ⟨?_, fun i hi => ?_⟩
  · rw [List.nodup_append]
    exact ⟨k.nd, by simp, fun a ha b hb => by
      obtain rfl := List.mem_singleton.1 hb
      intro e; exact hn (e ▸ ha)⟩
  · rcases List.mem_append.1 hi with a | a
    · exact k.lt i a
    · obtain rfl := List.mem_singleton.1 a
      exact hj
theorem meetS_int {n : Nat} (hn : n % 2 = 1) : meetS os h W met n = some met := if_pos hn
theorem meetS_bad {n : Nat} (hn : n % 2 ≠ 1) (e : objOf os h W n = none) : meetS os h W met n = none := by unfold meetS; rw [if_neg hn, e]; rfl
theorem meetS_old {n j : Nat} (hn : n % 2 ≠ 1) (e : objOf os h W n = some j) (hj : j ∈ met) : meetS os h W met n = some met := by unfold meetS; rw [if_neg hn, e]; simp [hj]
theorem meetS_new {n j : Nat} (hn : n % 2 ≠ 1) (e : objOf os h W n = some j) (hj : j ∉ met) : meetS os h W met n = some (met ++ [j]) := by unfold meetS; rw [if_neg hn, e]; simp [hj]
/-- a word that is met is an integer's, no object's, one's that was met, or a new one's -/
theorem meetS_cases (met : List Nat) (n : Nat) : n % 2 = 1 ∨ (n % 2 ≠ 1 ∧ objOf os h W n = none) ∨ (n % 2 ≠ 1 ∧ ∃ j, objOf os h W n = some j ∧ j ∈ met) ∨ (n % 2 ≠ 1 ∧ ∃ j, objOf os h W n = some j ∧ j ∉ met) := by
  by_cases hn : n % 2 = 1
  · exact .inl hn
  · cases e : objOf os h W n with
    | none => exact .inr (.inl ⟨hn, rfl⟩)
    | some j =>
      by_cases hj : j ∈ met
      · exact .inr (.inr (.inl ⟨hn, j, rfl, hj⟩))
      · exact .inr (.inr (.inr ⟨hn, j, rfl, hj⟩))
theorem meetS_okm {n : Nat} {m : List Nat} (k : Okm os met) (e : meetS os h W met n = some m) : Okm os m := by
  rcases meetS_cases (os := os) (h := h) (W := W) met n with a | ⟨a, b⟩ | ⟨a, j, b, c⟩ | ⟨a, j, b, c⟩
  · rw [meetS_int a] at e; cases e; exact k
  · rw [meetS_bad a b] at e; cases e
  · rw [meetS_old a b c] at e; cases e; exact k
  · rw [meetS_new a b c] at e; cases e; exact k.snoc (objOf_lt b) c
theorem meetL_okm {ns : List Nat} {m : List Nat} (k : Okm os met) (e : meetL os h W met ns = some m) : Okm os m := by
  induction ns generalizing met with
  | nil => cases e; exact k
  | cons n ns ih =>
    unfold meetL at e
    cases e2 : meetS os h W met n with
    | none => rw [e2] at e; cases e
    | some m2 => rw [e2] at e; exact ih (meetS_okm k e2) e
theorem bfs_okm {f i : Nat} {m : List Nat} (k : Okm os met) (e : bfs os h W f i met = some m) : Okm os m := by
  induction f generalizing i met with
  | zero => cases e; exact k
  | succ f ih =>
    unfold bfs at e
    cases e1 : met[i]? with
    | none => rw [e1] at e; cases e; exact k
    | some j =>
      rw [e1] at e
      simp only [] at e
      cases e2 : meetL os h W met (tagW os j) with
      | none => rw [e2] at e; cases e
      | some m2 => rw [e2] at e; exact ih (meetL_okm k e2) e
theorem reach_okm {roots m : List Nat} (e : reach os h W roots = some m) : Okm os m := by
  unfold reach at e
  cases e2 : meetL os h W [] roots with
  | none => rw [e2] at e; cases e
  | some m2 => rw [e2] at e; exact bfs_okm (meetL_okm okm_nil e2) e
theorem meetL_drop {ns : List Nat} {k n : Nat} (hn : ns[k]? = some n) : meetL os h W met (ns.drop k) = (meetS os h W met n).bind fun m => meetL os h W m (ns.drop (k + 1)) := by
  obtain ⟨hk, e⟩ := List.getElem?_eq_some_iff.1 hn
  rw [List.drop_eq_getElem_cons hk, e]; rfl
theorem bfs_end {f i : Nat} (hi : met.length ≤ i) : bfs os h W f i met = some met := by
  cases f with
  | zero => rfl
  | succ f => unfold bfs; rw [List.getElem?_eq_none hi]
theorem bfs_step {f i j : Nat} (hj : met[i]? = some j) : bfs os h W (f + 1) i met = (meetL os h W met (tagW os j)).bind fun m => bfs os h W f (i + 1) m := by
  conv => lhs; unfold bfs
  rw [hj]
theorem tagW_eq {j : Nat} {o : Ob} (ho : os[j]? = some o) : tagW os j = o.ws.take o.t := by unfold tagW; rw [ho]
end
/-- which cells are the first of an object that was met -/
def seenV (os : List Ob) (met : List Nat) : List Value := (List.range (used os)).map fun c => .bool (met.any fun j => start os j == c)
theorem seenV_length (os : List Ob) (met : List Nat) : (seenV os met).length = used os := by simp [seenV]
theorem seenV_nil (os : List Ob) : seenV os [] = List.replicate (used os) (.bool false) := by
  apply List.ext_getElem
  · simp [seenV]
  · intro i h1 h2; simp [seenV]
theorem seenV_at {os : List Ob} {met : List Nat} {j : Nat} (k : Okm os met) (hj : j < os.length) : (seenV os met)[start os j]? = some (.bool (decide (j ∈ met))) := by
  have hs := start_lt os hj
  unfold seenV
  rw [List.getElem?_map, List.getElem?_range (by omega), Option.map_some]
  congr 2
  rw [Bool.eq_iff_iff, List.any_eq_true, decide_eq_true_eq]
  constructor
  · rintro ⟨i, hi, e⟩
    rw [beq_iff_eq] at e
    rwa [start_inj os (k.lt i hi) hj e] at hi
  · intro hm
    exact ⟨j, hm, by simp⟩
theorem seenV_set {os : List Ob} {met : List Nat} {j : Nat} : (seenV os met).set (start os j) (.bool true) = seenV os (met ++ [j]) := by
  apply List.ext_getElem
  · simp [seenV]
  · intro c h1 h2
    simp only [seenV, List.getElem_set, List.getElem_map, List.getElem_range, List.any_append, List.any_cons, List.any_nil, Bool.or_false]
    by_cases e : start os j = c
    · rw [if_pos e]; simp [e]
    · rw [if_neg e]; simp [e]
/-- the addresses of the objects that were met -/
def metI (h W : Nat) (os : List Ob) (met : List Nat) : List Int := met.map fun j => objA h W os j
theorem metI_length (h W : Nat) (os : List Ob) (met : List Nat) : (metI h W os met).length = met.length := by simp [metI]
theorem metI_snoc (h W : Nat) (os : List Ob) (met : List Nat) (j : Nat) : metI h W os met ++ [objA h W os j] = metI h W os (met ++ [j]) := by simp [metI]
theorem metI_get {h W : Nat} {os : List Ob} {met : List Nat} {i j : Nat} (e : met[i]? = some j) : (metI h W os met)[i]? = some (objA h W os j) := by simp [metI, e]
end Go.Proofs.YtlakfnlkiebpdaaDoor
