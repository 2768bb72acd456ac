/- Plain mathematics: what a token is written as, which tokens are right, tokens put together. Conditions: none. -/
import Derived.Test.YtphhokpbkcdljaaDoorLexE
import Derived.Test.YtphhokpbkcdljaaDoorTextM
import Derived.Test.YtphhokpbkcdljaaDoorRtsQAll
namespace Go.Proofs.YtphhokpbkcdljaaDoor
open Go Go.RowKit
structure TokI where
  kind : Int
  text : List UInt8
  num : Int
/-- a token's text, as the program spells it -/
def spl (t : TokI) : List UInt8 := if t.kind = 1 then Lib.itoa t.num else if t.kind = 2 then RtsQ.quoteL t.text else t.text
/-- a token's text, as the document says it -/
def wrt (t : TokI) : List UInt8 := if t.kind = 0 then [] else spl t
def hits (t : TokI) : Option Tok → Bool
  | some x => decide ((x.kind : Int) = t.kind) && decide (x.text = t.text) && decide ((x.num : Int) = t.num)
  | none => false
def rightL (t : TokI) : Bool :=
  if t.kind = 0 then decide (t.text = []) && decide (t.num = 0) else if t.kind = 1 ∧ (t.num < 0 ∨ (maxI : Int) < t.num) then false else hits t (tokL (spl t))
def rightP (t : TokI) : Bool :=
  if spl t = [] then decide (t.kind = 0) && decide (t.text = []) && decide (t.num = 0) else match cutL (spl t) with
    | some x => decide (x.2 = (spl t).length) && hits t (some x.1)
    | none => false
theorem down_le {l : List UInt8} : ∀ {n : Nat} {x : Tok × Nat}, down l n = some x → x.2 ≤ n
  | 0, _, h => by cases h
  | n + 1, x, h => by
    rw [down] at h
    split at h
    · injection h with h; subst h; exact Nat.le_refl _
    · exact Nat.le_succ_of_le (down_le h)
theorem tok_nil : tokL [] = none := by decide
theorem run_all {p : UInt8 → Bool} {l : List UInt8} (h : l.all p = true) : run p l = l.length := by
  have h1 := run_le p l
  have h2 := (run_take p l l.length (Nat.le_refl _)).1 (by rw [List.take_length]; exact h)
  omega
theorem cut_of_tok {l : List UInt8} {t : Tok} (h : tokL l = some t) : cutL l = some (t, l.length) := by
  have h0 : l ≠ [] := by rintro rfl; rw [tok_nil] at h; cases h
  rw [← cut_long h0]
  unfold longL
  by_cases hd : run isDg l > 0
  · rw [if_pos hd]
    cases l with
    | nil => exact absurd rfl h0
    | cons c r =>
      have hc : isDg c = true := by
        rw [run_cons] at hd
        by_cases q : isDg c = true
        · exact q
        · rw [if_neg q] at hd; omega
      have h2 := tokL_digits (r := r) hc
      rw [h] at h2
      have hall : (c :: r).all isDg = true := by
        by_cases q : (c :: r).all isDg = true
        · exact q
        · rw [if_neg (fun z => q z.1)] at h2; cases h2
      rw [run_all hall, List.take_length, h]; rfl
  · rw [if_neg hd]
    obtain ⟨n, hn⟩ : ∃ n, l.length = n + 1 := ⟨l.length - 1, by have := List.length_pos_iff.2 h0; omega⟩
    rw [hn, down, ← hn, List.take_length, h]
theorem tok_of_cut {l : List UInt8} {t : Tok} (h : cutL l = some (t, l.length)) : tokL l = some t := by
  have h0 : l ≠ [] := by rintro rfl; cases h
  rw [← cut_long h0] at h
  unfold longL at h
  by_cases hd : run isDg l > 0
  · rw [if_pos hd] at h
    obtain ⟨t', ht, e⟩ := Option.map_eq_some_iff.1 h
    injection e with e1 e2
    rw [e2, List.take_length] at ht
    rw [ht, e1]
  · rw [if_neg hd] at h
    obtain ⟨n, hn⟩ : ∃ n, l.length = n + 1 := ⟨l.length - 1, by have := List.length_pos_iff.2 h0; omega⟩
    rw [hn, down, ← hn, List.take_length] at h
    split at h
    · rename_i t' ht
      injection h with h
      injection h with h1 h2
      rw [ht, h1]
    · have := down_le h
      simp only at this
      omega
theorem kindW_pos (s : List UInt8) : 3 ≤ kindW s ∧ kindW s ≤ 6 := by
  unfold kindW; split
  · omega
  · split <;> omega
/-- what is cut: of what kind, by its first byte -/
theorem cut_kind {c : UInt8} {r : List UInt8} {x : Tok × Nat} (h : cutL (c :: r) = some x) : 1 ≤ x.1.kind ∧ (x.1.kind = 1 → isDg c = true ∧ x.1.num ≤ maxI ∧ x.1.text = []) := by
  unfold cutL at h
  simp only at h
  split at h
  · rename_i hd
    split at h
    · rename_i hm
      injection h with h; subst h
      exact ⟨Nat.le_refl _, fun _ => ⟨hd, hm, rfl⟩⟩
    · cases h
  · split at h
    · obtain ⟨y, _, rfl⟩ := Option.map_eq_some_iff.1 h
      exact ⟨by simp, fun q => by simp at q⟩
    · split at h
      · injection h with h; subst h
        have := kindW_pos ((c :: r).take (run part1 r + 1))
        exact ⟨by simp only; omega, fun q => by simp only at q; omega⟩
      · split at h
        · injection h with h; subst h
          exact ⟨by simp, fun q => by simp at q⟩
        · obtain ⟨y, _, rfl⟩ := Option.map_eq_some_iff.1 h
          exact ⟨by simp, fun q => by simp at q⟩
theorem itoa_ne (n : Int) : Lib.itoa n ≠ [] := by
  unfold Lib.itoa
  split
  · simp
  · exact dec_ne _
theorem qL_ne (l : List UInt8) : RtsQ.quoteL l ≠ [] := by unfold RtsQ.quoteL; simp
theorem rightP_eq (t : TokI) : rightP t = rightL t := by
  unfold rightP rightL
  by_cases h0 : spl t = []
  · rw [if_pos h0]
    have h1 : t.kind ≠ 1 := fun q => by unfold spl at h0; rw [if_pos q] at h0; exact itoa_ne _ h0
    have h2 : t.kind ≠ 2 := fun q => by unfold spl at h0; rw [if_neg h1, if_pos q] at h0; exact qL_ne _ h0
    by_cases hk : t.kind = 0
    · rw [if_pos hk, decide_eq_true hk]; rfl
    · rw [if_neg hk, if_neg (fun q => h1 q.1), h0, tok_nil, decide_eq_false hk]; rfl
  · rw [if_neg h0]
    obtain ⟨c, r, hcr⟩ : ∃ c r, spl t = c :: r := by
      cases e : spl t with
      | nil => exact absurd e h0
      | cons c r => exact ⟨c, r, rfl⟩
    by_cases hk : t.kind = 0
    · rw [if_pos hk]
      have ht : t.text ≠ [] := fun q => h0 (by unfold spl; rw [if_neg (by omega), if_neg (by omega)]; exact q)
      rw [decide_eq_false ht]
      cases e : cutL (spl t) with
      | none => rfl
      | some x =>
        rw [hcr] at e
        have := (cut_kind e).1
        have hne : ¬ ((x.1.kind : Int) = t.kind) := by omega
        simp [hits, hne]
    · rw [if_neg hk]
      by_cases hb : t.kind = 1 ∧ (t.num < 0 ∨ (maxI : Int) < t.num)
      · rw [if_pos hb]
        cases e : cutL (spl t) with
        | none => rfl
        | some x =>
          have e' := e
          rw [hcr] at e'
          have hx := (cut_kind e').2
          by_cases hq : (x.1.kind : Int) = t.kind ∧ (x.1.num : Int) = t.num
          · have hx := hx (by omega)
            rcases hb.2 with hn | hn
            · omega
            · have := hx.2.1; omega
          · simp only [hits]
            by_cases q1 : (x.1.kind : Int) = t.kind
            · have q2 : ¬ (x.1.num : Int) = t.num := fun z => hq ⟨q1, z⟩
              simp [q2]
            · simp [q1]
      · rw [if_neg hb]
        cases e : cutL (spl t) with
        | none =>
          cases e2 : tokL (spl t) with
          | none => rfl
          | some y => rw [cut_of_tok e2] at e; cases e
        | some x =>
          obtain ⟨y, m⟩ := x
          by_cases hm : m = (spl t).length
          · rw [hm] at e
            rw [tok_of_cut e]
            simp [hm]
          · simp only [decide_eq_false hm, Bool.false_and]
            cases e2 : tokL (spl t) with
            | none => rfl
            | some z =>
              rw [cut_of_tok e2] at e
              injection e with e
              injection e with e1 e3
              exact absurd e3.symm hm
/-- tokens put together behind what stands there -/
def joinL (acc : List UInt8) : List TokI → Option (List UInt8)
  | [] => some acc
  | t :: r => if rightL t = true then (if t.kind = 0 then joinL acc r else joinL (if acc = [] then spl t else acc ++ 32 :: spl t) r) else none
end Go.Proofs.YtphhokpbkcdljaaDoor
