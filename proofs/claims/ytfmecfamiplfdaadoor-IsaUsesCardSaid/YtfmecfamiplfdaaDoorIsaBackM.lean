/- There and back, in numbers: what is encoded is decoded to the same, what is decoded is encoded to the same. Conditions: none. -/
import Derived.Test.YtfmecfamiplfdaaDoorIsaDec
namespace Go.Proofs.YtfmecfamiplfdaaDoor
open Go Go.RowKit
theorem encW_bd {o a b c n : Int} (h : chkOf o a b c n = 0) : 0 ≤ encW o a b c n ∧ encW o a b c n < 18446744073709551616 := by
  obtain ⟨g0, g1⟩ := known_of h
  obtain ⟨k, rfl⟩ := Int.eq_ofNat_of_zero_le (show 0 ≤ o by omega)
  rw [chkOf_yes (by omega) (by omega)] at h
  obtain ⟨⟨ha0, ha1⟩, ⟨hb0, hb1⟩, ⟨hc0, hc1⟩, hn0, hn1⟩ := chk_bounds h
  unfold encW
  omega
/-- the word as a natural number -/
def encN (o a b c n : Int) : Nat := (encW o a b c n).toNat
theorem encN_cast {o a b c n : Int} (h : chkOf o a b c n = 0) : ((encN o a b c n : Nat) : Int) = encW o a b c n := by
  have := (encW_bd h).1
  unfold encN
  omega
theorem encN_lt {o a b c n : Int} (h : chkOf o a b c n = 0) : encN o a b c n < 18446744073709551616 := by
  have := encW_bd h
  unfold encN
  omega
theorem enc_parts {o a b c n : Int} (h : chkOf o a b c n = 0) : oN (encN o a b c n) = o ∧ aN (encN o a b c n) = a ∧ bN (encN o a b c n) = b ∧ cN (encN o a b c n) = c ∧ sN (encN o a b c n) = n := by
  have hc := encN_cast h
  obtain ⟨g0, g1⟩ := known_of h
  obtain ⟨k, rfl⟩ := Int.eq_ofNat_of_zero_le (show 0 ≤ o by omega)
  rw [chkOf_yes (by omega) (by omega)] at h
  obtain ⟨⟨ha0, ha1⟩, ⟨hb0, hb1⟩, ⟨hc0, hc1⟩, hn0, hn1⟩ := chk_bounds h
  generalize encN k a b c n = N at hc
  unfold encW at hc
  unfold oN aN bN cN sN
  refine ⟨by omega, by omega, by omega, by omega, ?_⟩
  split <;> omega
theorem enc_dchk {o a b c n : Int} (h : chkOf o a b c n = 0) : dchk (encN o a b c n) = 0 := by
  obtain ⟨e0, e1, e2, e3, e4⟩ := enc_parts h
  unfold dchk
  rw [e0, e1, e2, e3, e4, h]
theorem dec_word (N : Nat) (hN : N < 18446744073709551616) : encW (oN N) (aN N) (bN N) (cN N) (sN N) = N := by
  unfold encW oN aN bN cN sN
  split <;> omega
theorem dec_wordOf {N : Nat} (hN : N < 18446744073709551616) (h : dchk N = 0) : wordOf (oN N) (aN N) (bN N) (cN N) (sN N) = N := by
  unfold wordOf
  rw [if_pos (show chkOf (oN N) (aN N) (bN N) (cN N) (sN N) = 0 from h), dec_word N hN]
theorem enc_inj {o a b c n o' a' b' c' n' : Int} (h : chkOf o a b c n = 0) (h' : chkOf o' a' b' c' n' = 0) (e : encW o a b c n = encW o' a' b' c' n') : o = o' ∧ a = a' ∧ b = b' ∧ c = c' ∧ n = n' := by
  have e' : encN o a b c n = encN o' a' b' c' n' := by unfold encN; rw [e]
  obtain ⟨e0, e1, e2, e3, e4⟩ := enc_parts h
  obtain ⟨f0, f1, f2, f3, f4⟩ := enc_parts h'
  rw [e'] at e0 e1 e2 e3 e4
  exact ⟨e0.symm.trans f0, e1.symm.trans f1, e2.symm.trans f2, e3.symm.trans f3, e4.symm.trans f4⟩
theorem cmp_ins (o a b c n o' a' b' c' n' : Int) (h : ¬ (o = o' ∧ a = a' ∧ b = b' ∧ c = c' ∧ n = n')) (W : World) :
    (binOp .eql 30 (.agg #[.int .i64 o, .int .i64 a, .int .i64 b, .int .i64 c, .int .i64 n]) (.agg #[.int .i64 o', .int .i64 a', .int .i64 b', .int .i64 c', .int .i64 n'])).run Tryd.prog W = .ok (.bool false) W := by
  by_cases h0 : o = o'
  · by_cases h1 : a = a'
    · by_cases h2 : b = b'
      · by_cases h3 : c = c'
        · by_cases h4 : n = n'
          · exact absurd ⟨h0, h1, h2, h3, h4⟩ h
          · subst h0 h1 h2 h3
            have g : (n == n') = false := by simpa using h4
            simp [go_sem, g]
        · subst h0 h1 h2
          have g : (c == c') = false := by simpa using h3
          simp [go_sem, g]
      · subst h0 h1
        have g : (b == b') = false := by simpa using h2
        simp [go_sem, g]
    · subst h0
      have g : (a == a') = false := by simpa using h1
      simp [go_sem, g]
  · have g : (o == o') = false := by simpa using h0
    simp [go_sem, g]
end Go.Proofs.YtfmecfamiplfdaaDoor
