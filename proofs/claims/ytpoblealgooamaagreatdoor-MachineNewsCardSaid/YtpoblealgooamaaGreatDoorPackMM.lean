/- Plain lemmas on texts as words: bytes, the lowest first. Plain lemmas on words as texts: the bytes of words, there and back. -/
import Derived.RowKit
import Derived.Laws.BitsLemmas
import Derived.Laws.BitsAllLaws
namespace Go.Proofs.YtpoblealgooamaaGreatDoor.NumL
open Go Go.RowKit
/-- the number whose bytes these are, the lowest first -/
def leN : List UInt8 → Nat
  | [] => 0
  | c :: r => c.toNat + 256 * leN r
theorem leN_append (a b : List UInt8) : leN (a ++ b) = leN a + 256 ^ a.length * leN b := by
  induction a with
  | nil => simp [leN]
  | cons c r ih => simp only [List.cons_append, leN, ih, List.length_cons, Nat.pow_succ, Nat.mul_add]; rw [Nat.mul_comm (256 ^ r.length) 256, Nat.mul_assoc]; omega
theorem leN_lt (a : List UInt8) : leN a < 256 ^ a.length := by
  induction a with
  | nil => simp [leN]
  | cons c r ih =>
    have hc : c.toNat < 256 := c.toNat_lt
    simp only [leN, List.length_cons, Nat.pow_succ]
    omega
theorem leN_inj : ∀ (a b : List UInt8), a.length = b.length → leN a = leN b → a = b
  | [], [], _, _ => rfl
  | [], _ :: _, h, _ => by simp at h
  | _ :: _, [], h, _ => by simp at h
  | c :: r, d :: q, h, e => by
    have hc : c.toNat < 256 := c.toNat_lt
    have hd : d.toNat < 256 := d.toNat_lt
    simp only [leN] at e
    have e1 : c.toNat = d.toNat := by omega
    have e2 : leN r = leN q := by omega
    rw [UInt8.toNat_inj.1 e1, leN_inj r q (by simpa using h) e2]
theorem pow256 (k : Nat) : (256 : Nat) ^ k = 2 ^ (8 * k) := by rw [Nat.pow_mul]
theorem take_snoc' (l : List UInt8) (k : Nat) (h : k < l.length) : l.take (k + 1) = l.take k ++ [l[k]] := by
  rw [List.take_succ_eq_append_getElem h]
theorem leN_step (l : List UInt8) (k : Nat) (h : k < l.length) : leN (l.take (k + 1)) = leN (l.take k) + 2 ^ (8 * k) * (l[k]).toNat := by
  rw [take_snoc' l k h, leN_append, ← pow256]
  simp [leN, Nat.min_eq_left (Nat.le_of_lt h)]
theorem shl_eq (c : Nat) (k : Nat) (hc : c < 256) (hk : k < 8) : IntKind.u64.wrap (IntKind.u64.wrap (c : Int) * 2 ^ (8 * k)) = ((2 ^ (8 * k) * c : Nat) : Int) := by
  have h1 : IntKind.u64.wrap (c : Int) = (c : Int) := by rw [IntKind.wrap_u64]; omega
  have h2 : (2 : Nat) ^ (8 * k) * c < 18446744073709551616 := by
    have h3 : (2 : Nat) ^ (8 * k) ≤ 2 ^ 56 := Nat.pow_le_pow_right (by decide) (by omega)
    have h4 : (2 : Nat) ^ (8 * k) * c ≤ 2 ^ 56 * 255 := Nat.mul_le_mul h3 (by omega)
    have h5 : (2 : Nat) ^ 56 * 255 < 18446744073709551616 := by decide
    omega
  rw [h1, IntKind.wrap_u64]
  have e : (c : Int) * 2 ^ (8 * k) = ((2 ^ (8 * k) * c : Nat) : Int) := by
    rw [Int.natCast_mul, Int.natCast_pow, Int.mul_comm]; rfl
  rw [e]; omega
theorem or_step (y c k : Nat) (hc : c < 256) (hk : k < 8) (hy : y < 2 ^ (8 * k)) : bits BinOp.or IntKind.u64 (y : Int) (IntKind.u64.wrap (IntKind.u64.wrap (c : Int) * 2 ^ (8 * k))) = ((y + 2 ^ (8 * k) * c : Nat) : Int) := by
  rw [shl_eq c k hc hk]
  have h2 : (2 : Nat) ^ (8 * k) * c < 18446744073709551616 := by
    have h3 : (2 : Nat) ^ (8 * k) ≤ 2 ^ 56 := Nat.pow_le_pow_right (by decide) (by omega)
    have h4 : (2 : Nat) ^ (8 * k) * c ≤ 2 ^ 56 * 255 := Nat.mul_le_mul h3 (by omega)
    have h5 : (2 : Nat) ^ 56 * 255 < 18446744073709551616 := by decide
    omega
  have h6 : y < 18446744073709551616 := by
    have h3 : (2 : Nat) ^ (8 * k) ≤ 2 ^ 56 := Nat.pow_le_pow_right (by decide) (by omega)
    have h5 : (2 : Nat) ^ 56 < 18446744073709551616 := by decide
    omega
  rw [u64_or_nat y _ h6 h2, Nat.or_comm, nat_join (8 * k) _ y (by simp) hy, Nat.add_comm]
theorem or_take (l : List UInt8) (k : Nat) (h : k < l.length) (hk : k < 8) : bits BinOp.or IntKind.u64 ((leN (l.take k) : Nat) : Int) (IntKind.u64.wrap (IntKind.u64.wrap ((l[k]).toNat : Int) * 2 ^ (8 * k))) = ((leN (l.take (k + 1)) : Nat) : Int) := by
  have hy := leN_lt (l.take k)
  rw [List.length_take, Nat.min_eq_left (Nat.le_of_lt h), pow256] at hy
  rw [or_step _ _ k (l[k]).toNat_lt hk hy, leN_step l k h]
/-- how many words so many bytes need -/
def nWords (n : Nat) : Nat := (n + 7) / 8
/-- word k of a text -/
def wordN (l : List UInt8) (k : Nat) : Nat := leN ((l.drop (8 * k)).take 8)
theorem wordN_lt (l : List UInt8) (k : Nat) : wordN l k < 18446744073709551616 := by
  have h := leN_lt ((l.drop (8 * k)).take 8)
  have h1 : ((l.drop (8 * k)).take 8).length ≤ 8 := List.length_take_le _ _
  have h2 : 256 ^ ((l.drop (8 * k)).take 8).length ≤ 256 ^ 8 := Nat.pow_le_pow_right (by decide) h1
  have h3 : (256 : Nat) ^ 8 = 18446744073709551616 := by decide
  unfold wordN; omega
/-- the words of a text -/
def packL (l : List UInt8) : List Nat := (List.range (nWords l.length)).map (wordN l)
theorem packL_length (l : List UInt8) : (packL l).length = nWords l.length := by simp [packL]
end Go.Proofs.YtpoblealgooamaaGreatDoor.NumL
namespace Go.Proofs.YtpoblealgooamaaGreatDoor.NumL
open Go Go.RowKit
/-- byte i of words -/
def byteAt (zs : List Nat) (i : Nat) : Nat := (zs.getD (i / 8) 0) / 2 ^ (8 * (i % 8)) % 256
def bytesOf (zs : List Nat) (n : Nat) : List UInt8 := (List.range n).map fun i => UInt8.ofNat (byteAt zs i)
theorem bytesOf_length (zs : List Nat) (n : Nat) : (bytesOf zs n).length = n := by simp [bytesOf]
theorem byteAt_lt (zs : List Nat) (i : Nat) : byteAt zs i < 256 := Nat.mod_lt _ (by decide)
/-- words that n bytes can have -/
def UOk (zs : List Nat) (n : Nat) : Prop := zs.length = nWords n ∧ (n % 8 ≠ 0 → zs.getD (zs.length - 1) 0 / 2 ^ (8 * (n % 8)) = 0)
theorem leN_digit : ∀ (l : List UInt8) (i : Nat), (h : i < l.length) → leN l / 2 ^ (8 * i) % 256 = (l[i]).toNat
  | [], i, h => by simp at h
  | c :: r, 0, _ => by
    have hc : c.toNat < 256 := c.toNat_lt
    simp only [leN, Nat.mul_zero, Nat.pow_zero, Nat.div_one, List.getElem_cons_zero]; omega
  | c :: r, i + 1, h => by
    have hc : c.toNat < 256 := c.toNat_lt
    have ih := leN_digit r i (by simpa using h)
    have e : 2 ^ (8 * (i + 1)) = 256 * 2 ^ (8 * i) := by rw [show 8 * (i + 1) = 8 + 8 * i from by omega, Nat.pow_add]
    simp only [leN, List.getElem_cons_succ]
    rw [e, ← Nat.div_div_eq_div_mul, show (c.toNat + 256 * leN r) / 256 = leN r from by omega, ih]
theorem packL_getD (l : List UInt8) (k : Nat) (h : k < nWords l.length) : (packL l).getD k 0 = wordN l k := by
  simp [packL, List.getD, h]
theorem byteAt_pack (l : List UInt8) (i : Nat) (h : i < l.length) : byteAt (packL l) i = (l[i]).toNat := by
  unfold byteAt
  rw [packL_getD l (i / 8) (by unfold nWords; omega)]
  unfold wordN
  have hl : i % 8 < ((l.drop (8 * (i / 8))).take 8).length := by simp; omega
  rw [leN_digit _ _ hl]
  congr 1
  simp only [List.getElem_take, List.getElem_drop]
  congr 1
  omega
theorem bytesOf_pack (l : List UInt8) : bytesOf (packL l) l.length = l := by
  apply List.ext_getElem
  · simp [bytesOf]
  · intro i h1 h2
    simp only [bytesOf, List.getElem_map, List.getElem_range]
    rw [byteAt_pack l i h2]
    simp
theorem uok_pack (l : List UInt8) : UOk (packL l) l.length := by
  refine ⟨packL_length l, fun h => ?_⟩
  rw [packL_length, packL_getD l _ (by unfold nWords; omega)]
  unfold wordN
  have hl := leN_lt ((l.drop (8 * (nWords l.length - 1))).take 8)
  have e : ((l.drop (8 * (nWords l.length - 1))).take 8).length = l.length % 8 := by simp [nWords]; omega
  rw [e, pow256] at hl
  exact Nat.div_eq_of_lt hl
theorem packL_inj {a b : List UInt8} (hl : a.length = b.length) (h : packL a = packL b) : a = b := by
  rw [← bytesOf_pack a, ← bytesOf_pack b, h, hl]
/-- a word below 2^64 is the number of its own bytes -/
theorem leN_bytes : ∀ (m z : Nat), z < 256 ^ m → leN ((List.range m).map fun i => UInt8.ofNat (z / 2 ^ (8 * i) % 256)) = z
  | 0, z, h => by simp [leN]; simp at h; omega
  | m + 1, z, h => by
    rw [List.range_succ_eq_map]
    simp only [List.map_cons, List.map_map, leN]
    have ih := leN_bytes m (z / 256) (by rw [Nat.pow_succ] at h; omega)
    have e : ((fun i => UInt8.ofNat (z / 2 ^ (8 * i) % 256)) ∘ Nat.succ) = fun i => UInt8.ofNat (z / 256 / 2 ^ (8 * i) % 256) := by
      funext i
      have e1 : 2 ^ (8 * (i + 1)) = 256 * 2 ^ (8 * i) := by rw [show 8 * (i + 1) = 8 + 8 * i from by omega, Nat.pow_add]
      simp only [Function.comp, Nat.succ_eq_add_one, e1, Nat.div_div_eq_div_mul]
    rw [e, ih]
    have h0 : (UInt8.ofNat (z / 2 ^ (8 * 0) % 256)).toNat = z % 256 := by
      rw [UInt8.toNat_ofNat']; simp
    rw [h0]; omega
theorem drop_take_bytes (zs : List Nat) (n k : Nat) : ((bytesOf zs n).drop (8 * k)).take 8 = (List.range (min 8 (n - 8 * k))).map fun i => UInt8.ofNat (zs.getD k 0 / 2 ^ (8 * i) % 256) := by
  apply List.ext_getElem
  · simp [bytesOf]
  · intro i h1 h2
    have h3 : i < 8 := by simp at h2; omega
    simp only [bytesOf, List.getElem_take, List.getElem_drop, List.getElem_map, List.getElem_range]
    unfold byteAt
    have e1 : (8 * k + i) / 8 = k := by omega
    have e2 : (8 * k + i) % 8 = i := by omega
    rw [e1, e2]
/-- right words come back from the text that they are of -/
theorem packL_bytes {zs : List Nat} {n : Nat} (h : UOk zs n) (hz : ∀ z ∈ zs, z < 18446744073709551616) : packL (bytesOf zs n) = zs := by
  have hlen := h.1
  apply List.ext_getElem
  · rw [packL_length, bytesOf_length, hlen]
  · intro k h1 h2
    have hg : zs.getD k 0 = zs[k] := by simp [List.getD, h2]
    simp only [packL, List.getElem_map, List.getElem_range]
    unfold wordN
    rw [drop_take_bytes, hg]
    have hk : zs[k] < 18446744073709551616 := hz _ (List.getElem_mem h2)
    have h256 : (256 : Nat) ^ 8 = 18446744073709551616 := by decide
    by_cases hf : 8 ≤ n - 8 * k
    · rw [Nat.min_eq_left hf]
      exact leN_bytes 8 _ (by omega)
    · have hm : n - 8 * k = n % 8 := by unfold nWords at hlen; omega
      have hn : n % 8 ≠ 0 := by unfold nWords at hlen; omega
      have hlast : zs.length - 1 = k := by unfold nWords at hlen; omega
      have h3 := h.2 hn
      rw [hlast, hg] at h3
      rw [Nat.min_eq_right (by omega), hm]
      apply leN_bytes
      rw [pow256]
      exact (Nat.div_eq_zero_iff_lt (Nat.two_pow_pos _)).1 h3
end Go.Proofs.YtpoblealgooamaaGreatDoor.NumL
