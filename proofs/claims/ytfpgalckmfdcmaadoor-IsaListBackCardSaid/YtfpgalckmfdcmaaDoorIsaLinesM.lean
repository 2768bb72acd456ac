/- The lines of a text: bytes cut at each line feed. Conditions: none. -/
import Derived.Lib.IndexMore
import Derived.Test.YtfpgalckmfdcmaaDoorProg
namespace Go.Proofs.YtfpgalckmfdcmaaDoor
open Go
/-- the lines of a text -/
def linesOf : List UInt8 → List (List UInt8)
  | [] => []
  | c :: cs => if c = 10 then [] :: linesOf cs else match linesOf cs with
    | [] => [[c]]
    | p :: ps => (c :: p) :: ps
/-- up to the first line feed, and behind it -/
def lineHead (l : List UInt8) : List UInt8 := l.takeWhile (· != 10)
def lineTail (l : List UInt8) : List UInt8 := (l.dropWhile (· != 10)).drop 1
theorem head_cons {b : UInt8} (l : List UInt8) (hb : b ≠ 10) : lineHead (b :: l) = b :: lineHead l := by simp [lineHead, hb]
theorem tail_cons {b : UInt8} (l : List UInt8) (hb : b ≠ 10) : lineTail (b :: l) = lineTail l := by simp [lineTail, hb]
theorem cut10 : ∀ l : List UInt8, (Lib.cut l [10]).1 = lineHead l ∧ (Lib.cut l [10]).2.1 = lineTail l
  | [] => by
    have : ¬ (0 : Int) ≤ Lib.index [] [10] := by decide
    simp [Lib.cut, this, lineHead, lineTail]
  | b :: l => by
    obtain ⟨h1, h2⟩ := cut10 l
    by_cases hb : b = 10
    · subst hb
      have : Lib.index (10 :: l) [10] = 0 := by simp [Lib.index]
      simp [Lib.cut, this, lineHead, lineTail]
    · have hp : List.isPrefixOf [10] (b :: l) = false := by simp [List.isPrefixOf]; exact fun e => hb e.symm
      have hix : Lib.index (b :: l) [10] = if Lib.index l [10] == -1 then -1 else Lib.index l [10] + 1 := by
        conv => lhs; unfold Lib.index
        rw [hp]; rfl
      have hge := Lib.index_ge l [10]
      unfold Lib.cut at h1 h2 ⊢
      rw [hix]
      by_cases q : Lib.index l [10] = -1
      · have hq : (Lib.index l [10] == -1) = true := by simpa using q
        rw [hq]
        have n0 : ¬ (0 : Int) ≤ Lib.index l [10] := by omega
        rw [if_neg n0] at h1 h2
        simp only [if_true]
        rw [if_neg (by decide)]
        rw [head_cons l hb, tail_cons l hb, ← h1, ← h2]
        exact ⟨rfl, rfl⟩
      · have hq : (Lib.index l [10] == -1) = false := by simpa using q
        rw [hq]
        obtain ⟨i, hi⟩ := Int.eq_ofNat_of_zero_le (show 0 ≤ Lib.index l [10] by omega)
        rw [hi] at h1 h2 ⊢
        rw [if_pos (by omega)] at h1 h2
        simp only [Bool.false_eq_true, if_false]
        rw [if_pos (by omega)]
        rw [head_cons l hb, tail_cons l hb, ← h1, ← h2]
        have e1 : ((i : Int) + 1).toNat = i + 1 := by omega
        have e2 : ((i : Nat) : Int).toNat = i := by omega
        simp only [e1, e2, List.length_cons, List.length_nil]
        exact ⟨rfl, rfl⟩
theorem linesOf_ne {l : List UInt8} (h : l ≠ []) : linesOf l ≠ [] := by
  cases l with
  | nil => exact absurd rfl h
  | cons c cs =>
    unfold linesOf
    split
    · simp
    · split <;> simp
theorem linesOf_step : ∀ {l : List UInt8}, l ≠ [] → linesOf l = lineHead l :: linesOf (lineTail l)
  | [], h => absurd rfl h
  | c :: cs, _ => by
    by_cases hc : c = 10
    · subst hc
      simp [linesOf, lineHead, lineTail]
    · rw [head_cons cs hc, tail_cons cs hc]
      conv => lhs; unfold linesOf
      rw [if_neg hc]
      cases cs with
      | nil => rfl
      | cons d ds =>
        have ih := linesOf_step (l := d :: ds) (by simp)
        rw [ih]
theorem lineTail_lt {l : List UInt8} (h : l ≠ []) : (lineTail l).length < l.length := by
  have h1 : (l.dropWhile (· != 10)).length ≤ l.length := (List.dropWhile_suffix _).length_le
  have h2 : 0 < l.length := by cases l <;> simp_all
  unfold lineTail
  rw [List.length_drop]
  omega
theorem linesOf_len : ∀ (n : Nat) (l : List UInt8), l.length ≤ n → (linesOf l).length ≤ n
  | 0, l, h => by
    have : l = [] := by cases l <;> simp_all
    subst this; simp [linesOf]
  | n + 1, l, h => by
    by_cases q : l = []
    · subst q; simp [linesOf]
    · rw [linesOf_step q]
      have := lineTail_lt q
      have := linesOf_len n (lineTail l) (by omega)
      simp; omega
/-- no line feed in a piece -/
theorem linesOf_cut {a r : List UInt8} (ha : ∀ x ∈ a, x ≠ 10) : linesOf (a ++ 10 :: r) = a :: linesOf r := by
  have h1 : lineHead (a ++ 10 :: r) = a := by
    unfold lineHead
    rw [List.takeWhile_append_of_pos (fun x hx => by simpa using ha x hx)]
    simp
  have h2 : lineTail (a ++ 10 :: r) = r := by
    unfold lineTail
    rw [List.dropWhile_append_of_pos (fun x hx => by simpa using ha x hx)]
    simp
  rw [linesOf_step (by simp), h1, h2]
theorem linesOf_last {a : List UInt8} (ha : ∀ x ∈ a, x ≠ 10) (h0 : a ≠ []) : linesOf a = [a] := by
  have h1 : lineHead a = a := by
    unfold lineHead
    have := List.takeWhile_append_of_pos (p := (· != 10)) (l₁ := a) (l₂ := []) (fun x hx => by simpa using ha x hx)
    simpa using this
  have h2 : lineTail a = [] := by
    unfold lineTail
    have := List.dropWhile_append_of_pos (p := (· != 10)) (l₁ := a) (l₂ := []) (fun x hx => by simpa using ha x hx)
    rw [List.append_nil] at this
    rw [this]
    rfl
  rw [linesOf_step h0, h1, h2]
  rfl
end Go.Proofs.YtfpgalckmfdcmaaDoor
