/- The candidate that Parse builds: what holds of it bit by bit. Conditions: none. -/
import Derived.Test.YtfpgalckmfdcmaaDoorIsaVal
namespace Go.Proofs.YtfpgalckmfdcmaaDoor
open Go Go.RowKit
def fld (a b c n : Int) (j : Nat) : Int := if j = 0 then a else if j = 1 then b else if j = 2 then c else n
def let4 (j : Nat) : Nat := if j = 0 then 97 else if j = 1 then 98 else if j = 2 then 99 else if j = 3 then 110 else 200
/-- how many letters of a form come ahead of the letter of a bit -/
def usedF (f : List UInt8) (j : Nat) : Nat := (f.filter fun x => decide (x.toNat < let4 j)).length
structure Cand (L : List UInt8) (k j t : Nat) (a b c n : Int) : Prop where
  right : ∀ o a' b' c' n' : Int, chkOf o a' b' c' n' = 0 → textOf o a' b' c' n' = L → o = k ∧ t = 1 + usedF (rowOf k).2.1 j ∧ ∀ i, i < j → i < 4 → hasB (bs (rowOf k).2.1) (let4 i) = true → fld a b c n i = fld a' b' c' n' i
  zero : ∀ i, i < 4 → hasB (bs (rowOf k).2.1) (let4 i) = false → fld a b c n i = 0
theorem words_of {k : Nat} {a b c n : Int} {L : List UInt8} (h : chkOf (k : Int) a b c n = 0) (e : textOf (k : Int) a b c n = L) : splitS L = (rowOf k).1 :: (rowOf k).2.1.map fun x => argW x (letterOf a b c n (x.toNat : Int)) := by
  obtain ⟨h0, h1⟩ := known_of h
  rw [← e, textOf_yes h, split_args _ _ _ _ _ _ (name_no_space k (by omega))]
theorem used_0 : ∀ k, k < 37 → usedF (rowOf k).2.1 0 = 0 := by decide +kernel
theorem used_4 : ∀ k, k < 37 → usedF (rowOf k).2.1 4 = (rowOf k).2.1.length := by decide +kernel
theorem used_set : ∀ k, k < 37 → ∀ j, j < 4 → hasB (bs (rowOf k).2.1) (let4 j) = true → usedF (rowOf k).2.1 (j + 1) = usedF (rowOf k).2.1 j + 1 ∧ (rowOf k).2.1[usedF (rowOf k).2.1 j]? = some (UInt8.ofNat (let4 j)) := by decide +kernel
theorem used_no : ∀ k, k < 37 → ∀ j, j < 4 → hasB (bs (rowOf k).2.1) (let4 j) = false → usedF (rowOf k).2.1 (j + 1) = usedF (rowOf k).2.1 j := by decide +kernel
theorem fld_letter (a b c n : Int) : ∀ j, j < 4 → letterOf a b c n (((UInt8.ofNat (let4 j)).toNat : Nat) : Int) = fld a b c n j
  | 0, _ => rfl
  | 1, _ => rfl
  | 2, _ => rfl
  | 3, _ => rfl
  | j + 4, h => absurd h (by omega)
/-- the start: the name found, or none -/
theorem Cand.start {L : List UInt8} {k : Nat} {nm : List UInt8} (hn : (splitS L)[0]? = some nm) (hk : (1 ≤ k ∧ (rowOf k).1 = nm) ∨ (k = 0 ∧ NoName nm 37)) (hk2 : k ≤ 36) : Cand L k 0 1 0 0 0 0 := by
  refine ⟨fun o a b c n h e => ?_, fun i _ _ => by unfold fld; simp⟩
  obtain ⟨h0, h1⟩ := known_of h
  obtain ⟨q, rfl⟩ := Int.eq_ofNat_of_zero_le (show 0 ≤ o by omega)
  rw [words_of h e] at hn
  have hnm : (rowOf q).1 = nm := Option.some.inj hn
  have hqk : q = k := by
    rcases hk with ⟨_, h3⟩ | ⟨_, h3⟩
    · exact name_inj q (by omega) k (by omega) (hnm.trans h3.symm)
    · exact (h3 q (by omega) (by omega) hnm).elim
  refine ⟨by rw [hqk], by rw [used_0 k (by omega)], fun i hi => absurd hi (Nat.not_lt_zero _)⟩
/-- a bit that the form does not name -/
theorem Cand.skip {L : List UInt8} {k j t : Nat} {a b c n : Int} (h : Cand L k j t a b c n) (hk : k ≤ 36) (hj : j < 4) (hb : hasB (bs (rowOf k).2.1) (let4 j) = false) : Cand L k (j + 1) t a b c n := by
  refine ⟨fun o a' b' c' n' h1 h2 => ?_, h.zero⟩
  obtain ⟨e1, e2, e3⟩ := h.right o a' b' c' n' h1 h2
  refine ⟨e1, by rw [used_no k (by omega) j hj hb]; exact e2, fun i hi hi4 hbi => ?_⟩
  by_cases q : i = j
  · subst q; rw [hb] at hbi; cases hbi
  · exact e3 i (by omega) hi4 hbi
/-- no words are left -/
theorem Cand.out {L : List UInt8} {k j t : Nat} {a b c n : Int} (h : Cand L k j t a b c n) (hk : k ≤ 36) (hj : j < 4) (hb : hasB (bs (rowOf k).2.1) (let4 j) = true) (ht : (splitS L).length ≤ t) : Cand L k (j + 1) t a b c n := by
  refine ⟨fun o a' b' c' n' h1 h2 => ?_, h.zero⟩
  obtain ⟨e1, e2, e3⟩ := h.right o a' b' c' n' h1 h2
  subst e1
  exfalso
  rw [words_of h1 h2, List.length_cons, List.length_map] at ht
  have := (List.getElem?_eq_some_iff.1 (used_set k (by omega) j hj hb).2).1
  omega
/-- a word is read -/
theorem Cand.take {L : List UInt8} {k j t : Nat} {a b c n a2 b2 c2 n2 r : Int} {l : List UInt8} (h : Cand L k j t a b c n) (hk : k ≤ 36) (hj : j < 4) (hb : hasB (bs (rowOf k).2.1) (let4 j) = true) (ht : (splitS L)[t]? = some l)
    (hr : ∀ x, fits x → Lib.itoa x = deR l → r = x) (hs : fld a2 b2 c2 n2 j = r) (ho : ∀ i, i < 4 → i ≠ j → fld a2 b2 c2 n2 i = fld a b c n i) : Cand L k (j + 1) (t + 1) a2 b2 c2 n2 := by
  refine ⟨fun o a' b' c' n' h1 h2 => ?_, fun i hi hbi => ?_⟩
  · obtain ⟨e1, e2, e3⟩ := h.right o a' b' c' n' h1 h2
    subst e1
    obtain ⟨u1, u2⟩ := used_set k (by omega) j hj hb
    refine ⟨rfl, by rw [u1]; omega, fun i hi hi4 hbi => ?_⟩
    by_cases q : i = j
    · subst q
      rw [hs]
      rw [words_of h1 h2, e2, Nat.add_comm, List.getElem?_cons_succ, List.getElem?_map, u2] at ht
      have hl : argW (UInt8.ofNat (let4 i)) (letterOf a' b' c' n' (((UInt8.ofNat (let4 i)).toNat : Nat) : Int)) = l := Option.some.inj ht
      rw [fld_letter _ _ _ _ i hi4] at hl
      obtain ⟨v, hv⟩ : ∃ v, fld a' b' c' n' i = v := ⟨_, rfl⟩
      rw [hv] at hl ⊢
      have hfit : fits v := by
        obtain ⟨⟨_, _⟩, ⟨_, _⟩, ⟨_, _⟩, _, _⟩ := chk_bounds (by rw [← chkOf_yes (op := k) (by have := known_of h1; omega) (by omega)]; exact h1)
        unfold fits
        unfold fld at hv
        repeat' split at hv
        all_goals omega
      refine hr v hfit ?_
      rw [← hl]
      unfold argW
      split
      · cases hq : Lib.itoa v with
        | nil => rfl
        | cons x m =>
          show _ = if x = 114 then m else x :: m
          rw [if_neg]
          rintro rfl
          have hx : (114 : UInt8) ∈ Lib.itoa v := by rw [hq]; exact List.mem_cons_self ..
          by_cases hv0 : v < 0
          · rw [itoa_neg' hv0] at hx
            rcases List.mem_cons.1 hx with e | e
            · cases e
            · have := (dec_dig _ _ e).2; simp at this
          · rw [itoa_abs_pos (by omega)] at hx
            have := (dec_dig _ _ hx).2; simp at this
      · show _ = if (114 : UInt8) = 114 then Lib.itoa v else 114 :: Lib.itoa v
        rw [if_pos rfl]
    · rw [ho i hi4 q]
      exact e3 i (by omega) hi4 hbi
  · have hne : i ≠ j := fun q => by subst q; rw [hb] at hbi; cases hbi
    rw [ho i hi hne]
    exact h.zero i hi hbi
/-- the end: a right instruction of that text is the candidate -/
theorem Cand.done {L : List UInt8} {k t : Nat} {a b c n : Int} (h : Cand L k 4 t a b c n) (o a' b' c' n' : Int) (h1 : chkOf o a' b' c' n' = 0) (h2 : textOf o a' b' c' n' = L) : o = k ∧ a' = a ∧ b' = b ∧ c' = c ∧ n' = n := by
  obtain ⟨e1, _, e3⟩ := h.right o a' b' c' n' h1 h2
  subst e1
  have hb := known_of h1
  obtain ⟨z0, z1, z2, z3⟩ := zero_of (by rw [← chkOf_yes (op := k) (by omega) (by omega)]; exact h1)
  have one : ∀ i, i < 4 → (hasB (bs (rowOf k).2.1) (let4 i) = false → fld a' b' c' n' i = 0) → fld a' b' c' n' i = fld a b c n i := fun i hi hz => by
    cases q : hasB (bs (rowOf k).2.1) (let4 i) with
    | true => exact (e3 i hi hi q).symm
    | false => rw [hz q, h.zero i hi q]
  exact ⟨rfl, one 0 (by decide) z0, one 1 (by decide) z1, one 2 (by decide) z2, one 3 (by decide) z3⟩
end Go.Proofs.YtfpgalckmfdcmaaDoor
