/- Plain lemmas on decimal numerals. -/
import Derived.RowKit
import Derived.Lib.ItoaNum
import Derived.Test.YtphhokpbkcdljaaDoorMath
namespace Go.Proofs.YtphhokpbkcdljaaDoor
open Go Go.RowKit
/-- the number that digits stand for -/
def dval (l : List UInt8) : Nat := l.foldl (fun a c => a * 10 + (c.toNat - 48)) 0
theorem dval_snoc (l : List UInt8) (c : UInt8) : dval (l ++ [c]) = dval l * 10 + (c.toNat - 48) := by simp [dval]
def isDig (c : UInt8) : Prop := 48 ≤ c.toNat ∧ c.toNat ≤ 57
theorem digitNat (d : Nat) (h : d < 10) : (UInt8.ofNat (48 + d)).toNat = 48 + d := by rw [UInt8.toNat_ofNat']; omega
theorem dec_small {u : Nat} (h : u < 10) : Lib.decDigits u = [UInt8.ofNat (48 + u)] := by rw [Lib.decDigits, dif_pos h]
theorem dec_big {u : Nat} (h : ¬ u < 10) : Lib.decDigits u = Lib.decDigits (u / 10) ++ [UInt8.ofNat (48 + u % 10)] := by rw [Lib.decDigits, dif_neg h]
theorem dec_val (u : Nat) : dval (Lib.decDigits u) = u := by
  induction u using Nat.strongRecOn with
  | ind u ih =>
    by_cases h : u < 10
    · rw [dec_small h]; simp only [dval, List.foldl_cons, List.foldl_nil]; rw [digitNat u h]; omega
    · rw [dec_big h, dval_snoc, ih (u / 10) (by omega), digitNat _ (by omega)]; omega
theorem dec_dig (u : Nat) : ∀ c ∈ Lib.decDigits u, isDig c := by
  induction u using Nat.strongRecOn with
  | ind u ih =>
    by_cases h : u < 10
    · rw [dec_small h]; intro c hc; simp only [List.mem_singleton] at hc; subst hc; unfold isDig; rw [digitNat u h]; omega
    · rw [dec_big h]; intro c hc
      rcases List.mem_append.1 hc with hc | hc
      · exact ih (u / 10) (by omega) c hc
      · simp only [List.mem_singleton] at hc; subst hc; unfold isDig; rw [digitNat _ (by omega)]; omega
theorem dec_ne (u : Nat) : Lib.decDigits u ≠ [] := by
  by_cases h : u < 10
  · rw [dec_small h]; simp
  · rw [dec_big h]; simp
theorem dval_app_le : ∀ b a : List UInt8, dval a ≤ dval (a ++ b)
  | [], a => by simp
  | c :: r, a => by
    have h := dval_app_le r (a ++ [c])
    rw [dval_snoc, List.append_assoc] at h
    have e : a ++ ([c] ++ r) = a ++ c :: r := rfl
    rw [e] at h
    omega
theorem dval_take_le (l : List UInt8) (k : Nat) : dval (l.take k) ≤ dval l := by
  have h := dval_app_le (l.drop k) (l.take k)
  rwa [List.take_append_drop] at h
theorem dval_take_succ (l : List UInt8) (k : Nat) (h : k < l.length) : dval (l.take (k + 1)) = dval (l.take k) * 10 + ((l[k]).toNat - 48) := by
  rw [List.take_succ_eq_append_getElem h, dval_snoc]
def fits (n : Int) : Prop := -4611686018427387904 ≤ n ∧ n ≤ 4611686018427387903
/-- what is read of a numeral in k steps: its value so far and its sign -/
def Read (n : Int) (k : Nat) (x sg : Int) : Prop :=
  (0 ≤ n ∧ x = dval ((Lib.decDigits n.toNat).take k) ∧ sg = 1) ∨ (n < 0 ∧ ((k = 0 ∧ x = 0 ∧ sg = 1) ∨ (0 < k ∧ x = dval ((Lib.decDigits n.natAbs).take (k - 1)) ∧ sg = -1)))
theorem itoa_pos {n : Int} (h : 0 ≤ n) : Lib.itoa n = Lib.decDigits n.toNat := by unfold Lib.itoa; rw [if_neg (by omega)]
theorem itoa_neg' {n : Int} (h : n < 0) : Lib.itoa n = 45 :: Lib.decDigits n.natAbs := by unfold Lib.itoa; rw [if_pos h]
theorem read_bd {n : Int} (hf : fits n) {k : Nat} {x sg : Int} (h : Read n k x sg) : 0 ≤ x ∧ x ≤ 4611686018427387904 := by
  unfold fits at hf
  rcases h with ⟨h0, rfl, _⟩ | ⟨h0, ⟨_, rfl, _⟩ | ⟨_, rfl, _⟩⟩
  · have h1 := dval_take_le (Lib.decDigits n.toNat) k
    rw [dec_val] at h1; omega
  · omega
  · have h1 := dval_take_le (Lib.decDigits n.natAbs) (k - 1)
    rw [dec_val] at h1; omega
theorem read_digit {n : Int} {k : Nat} {x sg : Int} (h : Read n k x sg) (hk : k < (Lib.itoa n).length) (hd : isDig ((Lib.itoa n)[k])) :
    Read n (k + 1) (x * 10 + ((((Lib.itoa n)[k]).toNat : Int) - 48)) sg := by
  unfold isDig at hd
  rcases h with ⟨h0, rfl, rfl⟩ | ⟨h0, h⟩
  · left
    refine ⟨h0, ?_, rfl⟩
    have e := itoa_pos h0
    have hk' : k < (Lib.decDigits n.toNat).length := by rw [← e]; exact hk
    have e2 : (Lib.itoa n)[k] = (Lib.decDigits n.toNat)[k] := by simp only [e]
    rw [dval_take_succ _ _ hk', e2]
    rw [e2] at hd
    omega
  · right
    refine ⟨h0, .inr ⟨by omega, ?_⟩⟩
    have e := itoa_neg' h0
    rcases h with ⟨rfl, rfl, rfl⟩ | ⟨h1, rfl, rfl⟩
    · exfalso
      have e2 : (Lib.itoa n)[0] = 45 := by simp only [e]; rfl
      rw [e2] at hd
      have : (45 : UInt8).toNat = 45 := rfl
      omega
    · obtain ⟨j, rfl⟩ : ∃ j, k = j + 1 := ⟨k - 1, by omega⟩
      have hk' : j < (Lib.decDigits n.natAbs).length := by rw [e] at hk; simpa using hk
      have e2 : (Lib.itoa n)[j + 1] = (Lib.decDigits n.natAbs)[j] := by simp only [e]; rfl
      refine ⟨?_, rfl⟩
      show _ = ((dval ((Lib.decDigits n.natAbs).take (j + 1)) : Nat) : Int)
      rw [dval_take_succ _ _ hk', e2]
      rw [e2] at hd
      show ((dval ((Lib.decDigits n.natAbs).take j) : Nat) : Int) * 10 + _ = _
      omega
theorem read_minus {n : Int} {x sg : Int} (h : Read n 0 x sg) (hk : 0 < (Lib.itoa n).length) (hd : (Lib.itoa n)[0] = 45) : Read n 1 x (-1) := by
  rcases h with ⟨h0, rfl, rfl⟩ | ⟨h0, h⟩
  · exfalso
    have e := itoa_pos h0
    have hk' : 0 < (Lib.decDigits n.toNat).length := by rw [← e]; exact hk
    have hx := dec_dig n.toNat ((Lib.decDigits n.toNat)[0]) (List.getElem_mem hk')
    have e2 : (Lib.itoa n)[0] = (Lib.decDigits n.toNat)[0] := by simp only [e]
    rw [← e2, hd] at hx
    unfold isDig at hx
    have : (45 : UInt8).toNat = 45 := rfl
    omega
  · right
    refine ⟨h0, .inr ⟨by omega, ?_, rfl⟩⟩
    rcases h with ⟨_, rfl, rfl⟩ | ⟨h1, _, _⟩
    · rfl
    · omega
theorem read_other {n : Int} {k : Nat} (hk : k < (Lib.itoa n).length) (hd : ¬ isDig ((Lib.itoa n)[k])) : k = 0 ∧ (Lib.itoa n)[k] = 45 := by
  by_cases h0 : 0 ≤ n
  · exfalso
    apply hd
    have e := itoa_pos h0
    have hk' : k < (Lib.decDigits n.toNat).length := by rw [← e]; exact hk
    have e2 : (Lib.itoa n)[k] = (Lib.decDigits n.toNat)[k] := by simp only [e]
    rw [e2]
    exact dec_dig n.toNat _ (List.getElem_mem hk')
  · have e := itoa_neg' (show n < 0 by omega)
    cases k with
    | zero => exact ⟨rfl, by simp only [e]; rfl⟩
    | succ j =>
      exfalso
      apply hd
      have hk' : j < (Lib.decDigits n.natAbs).length := by rw [e] at hk; simpa using hk
      have e2 : (Lib.itoa n)[j + 1] = (Lib.decDigits n.natAbs)[j] := by simp only [e]; rfl
      rw [e2]
      exact dec_dig n.natAbs _ (List.getElem_mem hk')
theorem read_start (n : Int) : Read n 0 0 1 := by
  by_cases h0 : 0 ≤ n
  · exact .inl ⟨h0, by simp [dval], rfl⟩
  · exact .inr ⟨by omega, .inl ⟨rfl, rfl, rfl⟩⟩
theorem read_end {n : Int} {x sg : Int} (h : Read n (Lib.itoa n).length x sg) : sg * x = n ∧ (sg = 1 ↔ 0 ≤ n) ∧ x = n.natAbs := by
  rcases h with ⟨h0, rfl, rfl⟩ | ⟨h0, h⟩
  · rw [itoa_pos h0, List.take_length, dec_val]; omega
  · have e := itoa_neg' h0
    rcases h with ⟨hk, _, _⟩ | ⟨_, rfl, rfl⟩
    · rw [e] at hk; simp at hk
    · have e1 : (Lib.itoa n).length - 1 = (Lib.decDigits n.natAbs).length := by rw [e]; simp
      rw [e1, List.take_length, dec_val]
      exact ⟨by omega, by omega, rfl⟩
theorem dec_len (k : Nat) : ∀ u : Nat, 1 ≤ k → u < 10 ^ k → (Lib.decDigits u).length ≤ k := by
  induction k with
  | zero => intro u h; omega
  | succ k ih =>
    intro u _ hu
    by_cases h : u < 10
    · rw [dec_small h]; simp
    · rw [dec_big h]
      by_cases hk : k = 0
      · subst hk; simp at hu; omega
      · have h1 : u / 10 < 10 ^ k := by rw [Nat.pow_succ] at hu; omega
        have := ih (u / 10) (by omega) h1
        simp; omega
/-- the reference's Text, a digit at a time from the last one on: what is left and what is written -/
def Wrote (n : Int) (left : Int) (acc : List UInt8) : Prop :=
  (acc = [] ∧ left = n) ∨ (acc ≠ [] ∧ ((left = 0 ∧ acc = Lib.decDigits n.natAbs) ∨ (left ≠ 0 ∧ Lib.decDigits left.natAbs ++ acc = Lib.decDigits n.natAbs)))
def lastDig (left : Int) : UInt8 := UInt8.ofNat (48 + (left.tmod 10).natAbs)
theorem dig_step {left : Int} {acc D : List UInt8} (h : Lib.decDigits left.natAbs ++ acc = D) : (left.tdiv 10 = 0 ∧ lastDig left :: acc = D) ∨ (left.tdiv 10 ≠ 0 ∧ Lib.decDigits (left.tdiv 10).natAbs ++ (lastDig left :: acc) = D) := by
  have e1 : (left.tdiv 10).natAbs = left.natAbs / 10 := Int.natAbs_tdiv left 10
  have e2 : (left.tmod 10).natAbs = left.natAbs % 10 := Int.natAbs_tmod left 10
  unfold lastDig
  rw [e2]
  by_cases h1 : left.natAbs < 10
  · left
    refine ⟨by omega, ?_⟩
    rw [← h, dec_small h1, Nat.mod_eq_of_lt h1]; rfl
  · right
    refine ⟨by omega, ?_⟩
    rw [e1, ← h, dec_big h1, List.append_assoc]; rfl
theorem wrote_step {n left : Int} {acc : List UInt8} (h : Wrote n left acc) (hc : left ≠ 0 ∨ acc = []) : Wrote n (left.tdiv 10) (lastDig left :: acc) := by
  right
  refine ⟨by simp, ?_⟩
  rcases h with ⟨rfl, rfl⟩ | ⟨hne, ⟨h0, _⟩ | ⟨_, h1⟩⟩
  · exact dig_step (by simp)
  · rcases hc with hc | hc
    · exact absurd h0 hc
    · exact absurd hc hne
  · exact dig_step h1
theorem wrote_end {n : Int} {acc : List UInt8} (h : Wrote n 0 acc) (hc : acc ≠ []) : acc = Lib.decDigits n.natAbs := by
  rcases h with ⟨h0, _⟩ | ⟨_, ⟨_, h1⟩ | ⟨h2, _⟩⟩
  · exact absurd h0 hc
  · exact h1
  · exact absurd rfl h2
theorem wrote_len {n left : Int} {acc : List UInt8} (h : Wrote n left acc) (h0 : -9223372036854775808 ≤ n) (h1 : n ≤ 9223372036854775807) : acc.length ≤ 20 := by
  have hd := dec_len 20 n.natAbs (by decide) (by have : (10 : Nat) ^ 20 = 100000000000000000000 := by decide
                                                 omega)
  rcases h with ⟨rfl, _⟩ | ⟨_, ⟨_, rfl⟩ | ⟨_, h2⟩⟩
  · simp
  · exact hd
  · rw [← h2, List.length_append] at hd; omega
theorem itoa_abs_neg {n : Int} (h : n < 0) : Lib.itoa n = 45 :: Lib.decDigits n.natAbs := itoa_neg' h
theorem itoa_abs_pos {n : Int} (h : 0 ≤ n) : Lib.itoa n = Lib.decDigits n.natAbs := by rw [itoa_pos h]; congr 1; omega
theorem cat1 (c : UInt8) (l : List UInt8) : (⟨#[c]⟩ : ByteArray) ++ ⟨l.toArray⟩ = ⟨(c :: l).toArray⟩ := by
  apply ByteArray.ext; simp [ByteArray.data_append]
theorem tmod_bd (left : Int) : -9 ≤ left.tmod 10 ∧ left.tmod 10 ≤ 9 := by
  have h : (left.tmod 10).natAbs = left.natAbs % 10 := Int.natAbs_tmod left 10
  omega
end Go.Proofs.YtphhokpbkcdljaaDoor
