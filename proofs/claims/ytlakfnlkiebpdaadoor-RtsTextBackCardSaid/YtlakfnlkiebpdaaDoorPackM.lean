/- Plain lemmas on texts as words: bytes, the lowest first. -/
import Derived.RowKit
import Derived.Laws.BitsLemmas
import Derived.Laws.BitsAllLaws
namespace Go.Proofs.YtlakfnlkiebpdaaDoor.NumL
open Go Go.RowKit
/-- the number whose bytes these are, the lowest first -/
def leN : List UInt8 → Nat
  | [] => 0
  | c :: r => c.toNat + 256 * leN r
theorem leN_append (a b : List UInt8) : leN (a ++ b) = leN a + 256 ^ a.length * leN b := by
  induction a with
  | nil => simp [leN]
  | cons c r ih => simp only [List.cons_append, leN, ih, List.length_cons, Nat.pow_succ, Nat.mul_add]; rw [Nat.mul_comm (256 ^ r.length) 256, Nat.mul_assoc]; omega
theorem leN_lt (a : List UInt8) : leN a < 256 ^ a.length := by
  induction a with
  | nil => simp [leN]
  | cons c r ih =>
    have hc : c.toNat < 256 := c.toNat_lt
    simp only [leN, List.length_cons, Nat.pow_succ]
    omega
theorem leN_inj : ∀ (a b : List UInt8), a.length = b.length → leN a = leN b → a = b
  | [], [], _, _ => rfl
  | [], _ :: _, h, _ => by simp at h
  | _ :: _, [], h, _ => by simp at h
  | c :: r, d :: q, h, e => by
    have hc : c.toNat < 256 := c.toNat_lt
    have hd : d.toNat < 256 := d.toNat_lt
    simp only [leN] at e
    have e1 : c.toNat = d.toNat := by omega
    have e2 : leN r = leN q := by omega
    rw [UInt8.toNat_inj.1 e1, leN_inj r q (by simpa using h) e2]
theorem pow256 (k : Nat) : (256 : Nat) ^ k = 2 ^ (8 * k) := by rw [Nat.pow_mul]
theorem take_snoc' (l : List UInt8) (k : Nat) (h : k < l.length) : l.take (k + 1) = l.take k ++ [l[k]] := by
  rw [List.take_succ_eq_append_getElem h]
theorem leN_step (l : List UInt8) (k : Nat) (h : k < l.length) : leN (l.take (k + 1)) = leN (l.take k) + 2 ^ (8 * k) * (l[k]).toNat := by
  rw [take_snoc' l k h, leN_append, ← pow256]
  simp [leN, Nat.min_eq_left (Nat.le_of_lt h)]
theorem shl_eq (c : Nat) (k : Nat) (hc : c < 256) (hk : k < 8) : IntKind.u64.wrap (IntKind.u64.wrap (c : Int) * 2 ^ (8 * k)) = ((2 ^ (8 * k) * c : Nat) : Int) := by
  have h1 : IntKind.u64.wrap (c : Int) = (c : Int) := by rw [IntKind.wrap_u64]; omega
  have h2 : (2 : Nat) ^ (8 * k) * c < 18446744073709551616 := by
    have h3 : (2 : Nat) ^ (8 * k) ≤ 2 ^ 56 := Nat.pow_le_pow_right (by decide) (by omega)
    have h4 : (2 : Nat) ^ (8 * k) * c ≤ 2 ^ 56 * 255 := Nat.mul_le_mul h3 (by omega)
    have h5 : (2 : Nat) ^ 56 * 255 < 18446744073709551616 := by decide
    omega
  rw [h1, IntKind.wrap_u64]
  have e : (c : Int) * 2 ^ (8 * k) = ((2 ^ (8 * k) * c : Nat) : Int) := by
    rw [Int.natCast_mul, Int.natCast_pow, Int.mul_comm]; rfl
  rw [e]; omega
theorem or_step (y c k : Nat) (hc : c < 256) (hk : k < 8) (hy : y < 2 ^ (8 * k)) : bits BinOp.or IntKind.u64 (y : Int) (IntKind.u64.wrap (IntKind.u64.wrap (c : Int) * 2 ^ (8 * k))) = ((y + 2 ^ (8 * k) * c : Nat) : Int) := by
  rw [shl_eq c k hc hk]
  have h2 : (2 : Nat) ^ (8 * k) * c < 18446744073709551616 := by
    have h3 : (2 : Nat) ^ (8 * k) ≤ 2 ^ 56 := Nat.pow_le_pow_right (by decide) (by omega)
    have h4 : (2 : Nat) ^ (8 * k) * c ≤ 2 ^ 56 * 255 := Nat.mul_le_mul h3 (by omega)
    have h5 : (2 : Nat) ^ 56 * 255 < 18446744073709551616 := by decide
    omega
  have h6 : y < 18446744073709551616 := by
    have h3 : (2 : Nat) ^ (8 * k) ≤ 2 ^ 56 := Nat.pow_le_pow_right (by decide) (by omega)
    have h5 : (2 : Nat) ^ 56 < 18446744073709551616 := by decide
    omega
  rw [u64_or_nat y _ h6 h2, Nat.or_comm, nat_join (8 * k) _ y (by simp) hy, Nat.add_comm]
theorem or_take (l : List UInt8) (k : Nat) (h : k < l.length) (hk : k < 8) : bits BinOp.or IntKind.u64 ((leN (l.take k) : Nat) : Int) (IntKind.u64.wrap (IntKind.u64.wrap ((l[k]).toNat : Int) * 2 ^ (8 * k))) = ((leN (l.take (k + 1)) : Nat) : Int) := by
  have hy := leN_lt (l.take k)
  rw [List.length_take, Nat.min_eq_left (Nat.le_of_lt h), pow256] at hy
  rw [or_step _ _ k (l[k]).toNat_lt hk hy, leN_step l k h]
/-- how many words so many bytes need -/
def nWords (n : Nat) : Nat := (n + 7) / 8
/-- word k of a text -/
def wordN (l : List UInt8) (k : Nat) : Nat := leN ((l.drop (8 * k)).take 8)
theorem wordN_lt (l : List UInt8) (k : Nat) : wordN l k < 18446744073709551616 := by
  have h := leN_lt ((l.drop (8 * k)).take 8)
  have h1 : ((l.drop (8 * k)).take 8).length ≤ 8 := List.length_take_le _ _
  have h2 : 256 ^ ((l.drop (8 * k)).take 8).length ≤ 256 ^ 8 := Nat.pow_le_pow_right (by decide) h1
  have h3 : (256 : Nat) ^ 8 = 18446744073709551616 := by decide
  unfold wordN; omega
/-- the words of a text -/
def packL (l : List UInt8) : List Nat := (List.range (nWords l.length)).map (wordN l)
theorem packL_length (l : List UInt8) : (packL l).length = nWords l.length := by simp [packL]
end Go.Proofs.YtlakfnlkiebpdaaDoor.NumL
