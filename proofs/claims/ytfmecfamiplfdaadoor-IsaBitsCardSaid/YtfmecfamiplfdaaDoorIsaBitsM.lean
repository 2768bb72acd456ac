/- Which bits a form names, in numbers. Conditions: none. -/
import Derived.Test.YtfmecfamiplfdaaDoorIsaBackM
namespace Go.Proofs.YtfmecfamiplfdaaDoor
open Go Go.RowKit
theorem and_shift (N x s : Nat) : N &&& (x <<< s) = ((N >>> s) &&& x) <<< s := by
  apply Nat.eq_of_testBit_eq
  intro i
  simp only [Nat.testBit_and, Nat.testBit_shiftLeft, Nat.testBit_shiftRight]
  by_cases h : s ≤ i
  · rw [show s + (i - s) = i by omega]; simp [h]
  · simp [h]
theorem piece (N k s : Nat) : N &&& ((2 ^ k - 1) <<< s) = (N / 2 ^ s % 2 ^ k) * 2 ^ s := by
  rw [and_shift, Nat.and_two_pow_sub_one_eq_mod, Nat.shiftRight_eq_div_pow, Nat.shiftLeft_eq]
theorem piece_zero (N k s : Nat) : N &&& ((2 ^ k - 1) <<< s) = 0 ↔ N / 2 ^ s % 2 ^ k = 0 := by
  rw [piece]
  have : 0 < 2 ^ s := Nat.pow_pos (by decide)
  constructor
  · intro h
    rcases Nat.mul_eq_zero.1 h with h | h
    · exact h
    · omega
  · intro h; rw [h, Nat.zero_mul]
theorem za (N : Nat) : N &&& 65280 = 0 ↔ aN N = 0 := by
  rw [show 65280 = (2 ^ 8 - 1) <<< 8 by decide, piece_zero]; unfold aN; omega
theorem za' (N : Nat) : N &&& 61440 = 0 ↔ aN N ≤ 15 := by
  rw [show 61440 = (2 ^ 4 - 1) <<< 12 by decide, piece_zero]; unfold aN; omega
theorem zb (N : Nat) : N &&& 16711680 = 0 ↔ bN N = 0 := by
  rw [show 16711680 = (2 ^ 8 - 1) <<< 16 by decide, piece_zero]; unfold bN; omega
theorem zb' (N : Nat) : N &&& 15728640 = 0 ↔ bN N ≤ 15 := by
  rw [show 15728640 = (2 ^ 4 - 1) <<< 20 by decide, piece_zero]; unfold bN; omega
theorem zc (N : Nat) : N &&& 4278190080 = 0 ↔ cN N = 0 := by
  rw [show 4278190080 = (2 ^ 8 - 1) <<< 24 by decide, piece_zero]; unfold cN; omega
theorem zc' (N : Nat) : N &&& 4026531840 = 0 ↔ cN N ≤ 15 := by
  rw [show 4026531840 = (2 ^ 4 - 1) <<< 28 by decide, piece_zero]; unfold cN; omega
theorem zn (N : Nat) (h : N < 18446744073709551616) : N &&& 18446744069414584320 = 0 ↔ sN N = 0 := by
  rw [show 18446744069414584320 = (2 ^ 32 - 1) <<< 32 by decide, piece_zero]; unfold sN; split <;> omega
theorem parts_lo (N : Nat) : 0 ≤ aN N ∧ 0 ≤ bN N ∧ 0 ≤ cN N := by unfold aN bN cN; omega
theorem sN_bd (N : Nat) (h : N < 18446744073709551616) : -2147483648 ≤ sN N ∧ sN N ≤ 2147483647 := by unfold sN; split <;> omega
/-- the bits that a form does not name, but for the operation's -/
def cmpl (s : ByteArray) : Nat := ((if hasB s 97 then 61440 else 65280) ||| (if hasB s 98 then 15728640 else 16711680)) ||| ((if hasB s 99 then 4026531840 else 4278190080) ||| (if hasB s 110 then 0 else 18446744069414584320))
theorem or_zero (N x y : Nat) : N &&& (x ||| y) = 0 ↔ N &&& x = 0 ∧ N &&& y = 0 := by
  rw [Nat.and_or_distrib_left, Nat.or_eq_zero_iff]
theorem one_iff (s : ByteArray) (v k : Int) (h : 0 ≤ v) : (¬ badR s v k ∧ ¬ badZ s v k) ↔ (if hasB s k then v ≤ 15 else v = 0) := by
  unfold badR badZ
  by_cases q : hasB s k = true
  · simp only [q]; simp; omega
  · have q' : hasB s k = false := by simpa using q
    simp only [q']; simp
theorem n_iff (s : ByteArray) (n : Int) (h : -2147483648 ≤ n ∧ n ≤ 2147483647) : ¬ badN s n ↔ (if hasB s 110 then True else n = 0) := by
  unfold badN
  by_cases q : hasB s 110 = true
  · simp only [q]; simp; omega
  · have q' : hasB s 110 = false := by simpa using q
    simp only [q']; simp
theorem chk_iff (s : ByteArray) (N : Nat) (h : N < 18446744073709551616) : chk s (aN N) (bN N) (cN N) (sN N) = 0 ↔ N &&& cmpl s = 0 := by
  obtain ⟨l0, l1, l2⟩ := parts_lo N
  have e : chk s (aN N) (bN N) (cN N) (sN N) = 0 ↔ ((¬ badR s (aN N) 97 ∧ ¬ badZ s (aN N) 97) ∧ (¬ badR s (bN N) 98 ∧ ¬ badZ s (bN N) 98)) ∧ ((¬ badR s (cN N) 99 ∧ ¬ badZ s (cN N) 99) ∧ ¬ badN s (sN N)) := by
    unfold chk
    split
    · rename_i g
      constructor
      · intro q; cases q
      · rintro ⟨⟨⟨a, _⟩, b, _⟩, ⟨c, _⟩, _⟩
        rcases g with g | g | g
        · exact absurd g a
        · exact absurd g b
        · exact absurd g c
    · rename_i g
      split
      · rename_i g'
        constructor
        · intro q; cases q
        · rintro ⟨⟨⟨_, a⟩, _, b⟩, ⟨_, c⟩, d⟩
          rcases g' with g' | g' | g' | g'
          · exact absurd g' a
          · exact absurd g' b
          · exact absurd g' c
          · exact absurd g' d
      · rename_i g'
        constructor
        · intro _
          exact ⟨⟨⟨fun q => g (.inl q), fun q => g' (.inl q)⟩, fun q => g (.inr (.inl q)), fun q => g' (.inr (.inl q))⟩, ⟨fun q => g (.inr (.inr q)), fun q => g' (.inr (.inr (.inl q)))⟩, fun q => g' (.inr (.inr (.inr q)))⟩
        · intro _; rfl
  rw [e, one_iff _ _ _ l0, one_iff _ _ _ l1, one_iff _ _ _ l2, n_iff _ _ (sN_bd N h)]
  unfold cmpl
  rw [or_zero, or_zero, or_zero]
  refine and_congr (and_congr ?_ ?_) (and_congr ?_ ?_)
  · split
    · exact (za' N).symm
    · exact (za N).symm
  · split
    · exact (zb' N).symm
    · exact (zb N).symm
  · split
    · exact (zc' N).symm
    · exact (zc N).symm
  · split
    · simp
    · exact (zn N h).symm
theorem dchk_iff (N : Nat) (h : N < 18446744073709551616) {op : Nat} (h0 : 1 ≤ op) (h1 : op ≤ 36) (ho : oN N = op) : dchk N = 0 ↔ N &&& cmpl (bs (rowOf op).2.1) = 0 := by
  unfold dchk
  rw [ho, chkOf_yes h0 h1, chk_iff _ _ h]
/-- a letter's bits -/
def pieceL (c : UInt8) : Int := if (c.toNat : Int) = 97 then 3840 else if (c.toNat : Int) = 98 then 983040 else if (c.toNat : Int) = 99 then 251658240 else 18446744069414584320
/-- the mask of letters -/
def maskL (l : List UInt8) : Int := l.foldl (fun m c => bits BinOp.or IntKind.u64 m (pieceL c)) 255
theorem maskL_snoc (l : List UInt8) (c : UInt8) : maskL (l ++ [c]) = bits BinOp.or IntKind.u64 (maskL l) (pieceL c) := by
  unfold maskL; rw [List.foldl_append]; rfl
theorem cmpl_lt (s : ByteArray) : cmpl s < 18446744073709551616 := by
  unfold cmpl
  have : ∀ x y : Nat, x < 2 ^ 64 → y < 2 ^ 64 → x ||| y < 2 ^ 64 := fun x y hx hy => Nat.or_lt_two_pow hx hy
  apply this
  · apply this
    · split <;> decide
    · split <;> decide
  · apply this
    · split <;> decide
    · split <;> decide
theorem mask_ok : ∀ n : Nat, 1 ≤ n → n ≤ 36 → maskL (rowOf n).2.1 = ((18446744073709551615 - cmpl (bs (rowOf n).2.1) : Nat) : Int)
  | 0, h, _ => absurd h (by decide)
  | 1, _, _ => by decide +kernel
  | 2, _, _ => by decide +kernel
  | 3, _, _ => by decide +kernel
  | 4, _, _ => by decide +kernel
  | 5, _, _ => by decide +kernel
  | 6, _, _ => by decide +kernel
  | 7, _, _ => by decide +kernel
  | 8, _, _ => by decide +kernel
  | 9, _, _ => by decide +kernel
  | 10, _, _ => by decide +kernel
  | 11, _, _ => by decide +kernel
  | 12, _, _ => by decide +kernel
  | 13, _, _ => by decide +kernel
  | 14, _, _ => by decide +kernel
  | 15, _, _ => by decide +kernel
  | 16, _, _ => by decide +kernel
  | 17, _, _ => by decide +kernel
  | 18, _, _ => by decide +kernel
  | 19, _, _ => by decide +kernel
  | 20, _, _ => by decide +kernel
  | 21, _, _ => by decide +kernel
  | 22, _, _ => by decide +kernel
  | 23, _, _ => by decide +kernel
  | 24, _, _ => by decide +kernel
  | 25, _, _ => by decide +kernel
  | 26, _, _ => by decide +kernel
  | 27, _, _ => by decide +kernel
  | 28, _, _ => by decide +kernel
  | 29, _, _ => by decide +kernel
  | 30, _, _ => by decide +kernel
  | 31, _, _ => by decide +kernel
  | 32, _, _ => by decide +kernel
  | 33, _, _ => by decide +kernel
  | 34, _, _ => by decide +kernel
  | 35, _, _ => by decide +kernel
  | 36, _, _ => by decide +kernel
  | n + 37, _, h => absurd h (by omega)
theorem andNot_mask (N : Nat) (h : N < 18446744073709551616) {op : Nat} (h0 : 1 ≤ op) (h1 : op ≤ 36) : bits BinOp.andNot IntKind.u64 (N : Int) (maskL (rowOf op).2.1) = ((N &&& cmpl (bs (rowOf op).2.1) : Nat) : Int) := by
  have hc := cmpl_lt (bs (rowOf op).2.1)
  rw [mask_ok op h0 h1, u64_andNot_nat N _ h (by omega)]
  rw [show 18446744073709551615 - (18446744073709551615 - cmpl (bs (rowOf op).2.1)) = cmpl (bs (rowOf op).2.1) by omega]
/-- one bit turned -/
theorem flip_facts (N B : Nat) (h : N < 18446744073709551616) (h0 : 8 ≤ B) (h1 : B ≤ 63) : N ^^^ 2 ^ B < 18446744073709551616 ∧ oN (N ^^^ 2 ^ B) = oN N ∧ N ^^^ 2 ^ B ≠ N := by
  refine ⟨?_, ?_, ?_⟩
  · have h2 : 2 ^ B < 2 ^ 64 := Nat.pow_lt_pow_right (by decide) (by omega)
    exact Nat.xor_lt_two_pow (n := 64) h h2
  · unfold oN
    have e : (N ^^^ 2 ^ B) % 2 ^ 8 = (N % 2 ^ 8) ^^^ (2 ^ B % 2 ^ 8) := Nat.xor_mod_two_pow
    have e2 : 2 ^ B % 2 ^ 8 = 0 := by
      rw [show B = 8 + (B - 8) by omega, Nat.pow_add, Nat.mul_mod_right]
    rw [e2, Nat.xor_zero] at e
    rw [show (256 : Nat) = 2 ^ 8 from rfl, e]
  · intro e
    have e1 : N ^^^ (N ^^^ 2 ^ B) = N ^^^ N := by rw [e]
    rw [← Nat.xor_assoc, Nat.xor_self, Nat.zero_xor] at e1
    have : 0 < 2 ^ B := Nat.pow_pos (by decide)
    omega
theorem dec_differ {N M : Nat} (hN : N < 18446744073709551616) (hM : M < 18446744073709551616) (h : M ≠ N) : ¬ (oN M = oN N ∧ aN M = aN N ∧ bN M = bN N ∧ cN M = cN N ∧ sN M = sN N) := by
  rintro ⟨e0, e1, e2, e3, e4⟩
  have f0 := dec_word M hM
  rw [e0, e1, e2, e3, e4, dec_word N hN] at f0
  exact h (by omega)
theorem ncmp_ins (o a b c n o' a' b' c' n' : Int) (h : ¬ (o = o' ∧ a = a' ∧ b = b' ∧ c = c' ∧ n = n')) (W : World) :
    (binOp .neq 30 (.agg #[.int .i64 o, .int .i64 a, .int .i64 b, .int .i64 c, .int .i64 n]) (.agg #[.int .i64 o', .int .i64 a', .int .i64 b', .int .i64 c', .int .i64 n'])).run Tryd.prog W = .ok (.bool true) W := by
  have e := cmp_ins o a b c n o' a' b' c' n' h W
  rw [run_eql_struct] at e
  rw [run_neq_struct]
  revert e
  generalize (Op.equalIn 10000 30 (.agg #[.int .i64 o, .int .i64 a, .int .i64 b, .int .i64 c, .int .i64 n]) (.agg #[.int .i64 o', .int .i64 a', .int .i64 b', .int .i64 c', .int .i64 n'])).run Tryd.prog W = R
  cases R with
  | ok v w => intro e; simp [Result.andThen] at e ⊢; obtain ⟨rfl, rfl⟩ := e; simp
  | halt h w => intro e; simp [Result.andThen] at e
  
end Go.Proofs.YtfmecfamiplfdaaDoor
