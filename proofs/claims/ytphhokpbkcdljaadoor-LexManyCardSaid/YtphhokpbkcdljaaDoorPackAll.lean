/- Contracts of the packing of texts into words. The contract of num.Pack: a slice that owns the words of the text, and nothing that lay has turned. Condition: the text is no longer than the reach. Contracts of num.Unpack and of the reference's SameWords and Among: words are read, texts are made; nothing that lay has turned. Conditions: the lists are of 64-bit words and no longer than the reach. The contract of the reference's SameWords: two lists of words are read and compared; nothing that lay has turned. Condition: the lists are no longer than the reach. -/
import Derived.RangeFuncBox
import Derived.RangeFuncLeaves
import Derived.Shelf.Abstract
import Derived.WalkKit
import Derived.OwnWalkIn
import Derived.TacticsInMore
import Derived.LoopNIn
import Derived.LoopIn
import Derived.Maps.AppendAt
import Derived.Test.YtphhokpbkcdljaaDoorNumC
import Derived.Test.YtphhokpbkcdljaaDoorPackMM
import Derived.Laws.MakeOwn
import Derived.RangeFuncNested
import Derived.BigQuiet
import Derived.Deep.QuietTactic
import Derived.Laws.OwnMore
import Derived.Laws.IdiomStrings
namespace Go.Proofs.YtphhokpbkcdljaaDoor
open Go Go.RowKit Go.Shelf
attribute [local go_sem] Oper.semAt_some
theorem or_bytes (s : ByteArray) (k : Nat) (h : k < s.size) (hk : k < 8) : bits BinOp.or IntKind.u64 ((leN (s.data.toList.take k) : Nat) : Int) (IntKind.u64.wrap (IntKind.u64.wrap ((s[k]).toNat : Int) * 2 ^ (8 * k))) = ((leN (s.data.toList.take (k + 1)) : Nat) : Int) :=
  or_take s.data.toList k (by simpa using h) hk
def upto {α : Type} (f : Nat → α) (k : Nat) : List α := (List.range k).map f
theorem upto_succ {α : Type} (f : Nat → α) (k : Nat) : upto f (k + 1) = upto f k ++ [f k] := by simp [upto, List.range_succ]
theorem upto_length {α : Type} (f : Nat → α) (k : Nat) : (upto f k).length = k := by simp [upto]
def wordAt (s : ByteArray) (k : Nat) : Nat × Nat := (k, wordN s.data.toList k)
theorem ext_take (s : ByteArray) (k : Nat) : leN ((s.extract (k * 8) s.size).data.toList.take 8) = wordN s.data.toList k := by
  unfold wordN
  have e : (s.extract (k * 8) s.size).data.toList = s.data.toList.drop (8 * k) := by
    rw [Nat.mul_comm k 8]
    simp [ByteArray.data_extract]
    exact List.take_of_length_le (by simp)
  rw [e]
/-- what a round keeps: the box of the text -/
def KeepBox (Bs : Nat) (s : ByteArray) (A B : World) : Prop := Boxed A Bs 9 (.string s) → Boxed B Bs 9 (.string s)
end Go.Proofs.YtphhokpbkcdljaaDoor
namespace Go.Proofs.YtphhokpbkcdljaaDoor
open Go Go.RowKit Go.Shelf
attribute [local go_sem] Oper.semAt_some
theorem infoU64 : (Tryd.prog.info? 87).map (fun i => (i.zero, i.size, i.bytes)) = some (some (.int .u64 0), 1, 8) := by kernel_rfl
def u64s (l : List Nat) : List Value := l.map fun (n : Nat) => Value.int .u64 (n : Int)
theorem keepBox_t {Bs : Nat} {s : ByteArray} {A B C : World} (h : KeepBox Bs s A B) (k : KeepBox Bs s B C) : KeepBox Bs s A C := fun x => k (h x)
theorem keepBox_b {Bs : Nat} {s : ByteArray} {w : World} (hb : Bs < w.heap.size) (W : World) (l : Nat) (o o' : Obj) (hl : w.heap.size ≤ l) (_ : W.heap[l]? = some o) (_ : o.isCells = false) (_ : o.isWalk = false) : KeepBox Bs s W (W.putObj l o') := fun x =>
  x.kept (grownBy_putObj' W l o') (fun e => by cases e; omega)
theorem u64s_snoc (l : List Nat) (n : Nat) : u64s (l ++ [n]) = u64s l ++ [Value.int .u64 (n : Int)] := by simp [u64s]
theorem u64s_length (l : List Nat) : (u64s l).length = l.length := by simp [u64s]
theorem upto_words (s : ByteArray) : (upto (wordAt s) (nWords s.size)).map Prod.snd = packL s.data.toList := by
  simp [upto, wordAt, packL]
end Go.Proofs.YtphhokpbkcdljaaDoor
namespace Go.Proofs.YtphhokpbkcdljaaDoor
open Go Go.RowKit
/-- the slice value v reads as the words zs, in a block below n₀; or it is nil and there are none -/
def Words (n₀ : Nat) (W : World) (v : Value) (zs : List Nat) : Prop :=
  (v = .slice none 0 0 ∧ zs = []) ∨ ∃ b off cap, v = .slice (some ⟨b, off, none⟩) zs.length cap ∧ b < n₀ ∧ zs.length ≤ cap ∧ ∀ j, j < zs.length → W.cell? ⟨b, off + j, none⟩ = some (.int .u64 (zs.getD j 0 : Nat))
theorem Words.below {n₀ : Nat} {A B : World} (h : Below n₀ A B) {v : Value} {zs : List Nat} : Words n₀ A v zs → Words n₀ B v zs
  | .inl e => .inl e
  | .inr ⟨b, off, cap, e, hb, hl, hc⟩ => .inr ⟨b, off, cap, e, hb, hl, fun j hj => (h.cell (p := ⟨b, off + j, none⟩) hb).trans (hc j hj)⟩
theorem Words.mono {n₀ n₁ : Nat} {A : World} (h : n₀ ≤ n₁) {v : Value} {zs : List Nat} : Words n₀ A v zs → Words n₁ A v zs
  | .inl e => .inl e
  | .inr ⟨b, off, cap, e, hb, hl, hc⟩ => .inr ⟨b, off, cap, e, by omega, hl, hc⟩
theorem Words.of_own {W : World} {n₀ : Nat} {v : Value} {zs : List Nat} (h : W.ownsRow n₀ 87 1 v zs.length (u64s zs)) : Words W.heap.size W v zs := by
  rcases h.2 with ⟨rfl, h0⟩ | ⟨g, cap, cur, rfl, _, hg, h1, h2, h3, h4⟩
  · left; exact ⟨rfl, List.length_eq_zero_iff.1 h0⟩
  · right
    refine ⟨g, 0, cap, rfl, (Array.getElem?_eq_some_iff.1 hg).1, h1, fun j hj => ?_⟩
    have e : cur.toList[j]? = some (.int .u64 (zs.getD j 0 : Nat)) := by
      have : (cur.toList.take (zs.length * 1))[j]? = (u64s zs)[j]? := by rw [h4]
      rw [List.getElem?_take_of_lt (by omega)] at this
      rw [this]
      simp [u64s, hj, List.getD]
    have hc : W.cell? ⟨g, 0 + j, none⟩ = cur[j]? := by simp [World.cell?, hg]
    rw [hc, ← e]; simp
theorem Words.shape {n₀ : Nat} {W : World} {v : Value} {zs : List Nat} (h : Words n₀ W v zs) : ∃ a cap, v = .slice a zs.length cap := by
  rcases h with ⟨rfl, rfl⟩ | ⟨b, off, cap, rfl, _⟩
  · exact ⟨none, 0, rfl⟩
  · exact ⟨_, cap, rfl⟩
def Amg (n : Nat) (e : Ending) : Prop := ∃ j : Nat, j < n ∧ e = .returned (.int .i64 j)
theorem amg_mk {n : Nat} {x : Int} (h0 : 0 ≤ x) (h1 : x < n) : Amg n (.returned (.int .i64 x)) := ⟨x.toNat, by omega, ret_int (by omega)⟩
set_option maxHeartbeats 400000 in
theorem among_any (k : Int) (n : Nat) (h0 : 1 ≤ n) (h1 : n ≤ 1000000) (w : World) :
    Calls Tryd.prog 16 #[.int .i64 k, .int .i64 n] w fun e w' => Amg n e ∧ w = w' := by
  have ht : -(n : Int) < k.tmod n ∧ k.tmod n < n := by have := tmod_lt (a := k) (b := n) (by omega); omega
  obtain ⟨t0, t1⟩ := ht
  by_cases hk : k.tmod n < 0
  · go_enter Tryd.func16, Tryd.ntmps16
    go_wp2
    go_ret
    exact ⟨amg_mk (by omega) (by omega), rfl⟩
  · go_enter Tryd.func16, Tryd.ntmps16
    go_wp2
    go_ret
    exact ⟨amg_mk (by omega) (by omega), rfl⟩
theorem shr_ne {z e : Nat} (h : z / 2 ^ e ≠ 0) : (((z : Nat) : Int) / 2 ^ e != 0) = true := by
  have : ¬ (((z : Nat) : Int) / 2 ^ e = 0) := by
    intro h2
    apply h
    have : ((z / 2 ^ e : Nat) : Int) = 0 := by rw [Int.natCast_ediv, Int.natCast_pow]; exact h2
    omega
  simpa using this
theorem shr_eq {z e : Nat} (h : z / 2 ^ e = 0) : (((z : Nat) : Int) / 2 ^ e != 0) = false := by
  have : (((z : Nat) : Int) / 2 ^ e = 0) := by
    have h2 : ((z / 2 ^ e : Nat) : Int) = 0 := by omega
    rw [Int.natCast_ediv, Int.natCast_pow] at h2; exact h2
  simpa using this
theorem infoU8 : (Tryd.prog.info? 5).map (fun i => (i.zero, i.size, i.bytes)) = some (some (.int .u8 0), 1, 1) := by kernel_rfl
/-- what the bytes made so far are: block B holds n bytes, the first k of them those of the words -/
def Made (B n k : Nat) (zs : List Nat) (W : World) : Prop := ∀ j, j < n → W.cell? ⟨B, j, none⟩ = some (.int .u8 ((if j < k then byteAt zs j else 0 : Nat) : Int)) ∧ W.frozen? ⟨B, j, none⟩ = false
theorem byte_cast (z e : Nat) : ((z : Nat) : Int) / 2 ^ e % 256 = ((z / 2 ^ e % 256 : Nat) : Int) := by
  rw [Int.natCast_emod, Int.natCast_ediv, Int.natCast_pow]; rfl
theorem byte_is {zs : List Nat} {k z : Nat} (h : zs.getD (k / 8) 0 = z) : ((z : Nat) : Int) / 2 ^ (8 * (k % 8)) % 256 = ((byteAt zs k : Nat) : Int) := by
  rw [byte_cast]; unfold byteAt; rw [h]
theorem made_start (w : World) (m : Nat) (zs : List Nat) : Made w.heap.size m 0 zs (w.alloc (.cells (madeCells #[.int .u8 0] m) 5)) := by
  intro j hj
  refine ⟨?_, World.frozen?_alloc_new _ _ _ _⟩
  have h : (madeCells #[Value.int .u8 0] m)[j]? = some (Value.int .u8 0) := by
    rw [← Array.getElem?_toList, toList_madeCells_one, List.getElem?_replicate, if_pos hj]
  rw [World.cell?_alloc_mark w _ 5 (0, 0) j, h]
  rfl
theorem made_step {B n k : Nat} {zs : List Nat} {W : World} (h : Made B n k zs W) (hk : k < n) : Made B n (k + 1) zs (W.setCell ⟨B, k, none⟩ (.int .u8 (byteAt zs k : Nat))) := by
  intro j hj
  obtain ⟨h1, h2⟩ := h j hj
  refine ⟨?_, by rw [World.frozen?_setCell]; exact h2⟩
  by_cases e : j = k
  · subst e
    rw [World.cell?_setCell_same _ _ _ h1, if_pos (by omega)]
  · rw [World.cell?_setCell_other _ _ _ _ (fun x => e (by injection x with _ h4; exact h4.symm)), h1]
    by_cases h3 : j < k
    · rw [if_pos h3, if_pos (by omega)]
    · rw [if_neg h3, if_neg (by omega)]
theorem made_end {B n : Nat} {zs : List Nat} {W : World} (h : Made B n n zs W) (cap : Nat) : (convert 30 9 (.slice (some ⟨B, 0, none⟩) n cap)).run Tryd.prog W = .ok (.string ⟨(bytesOf zs n).toArray⟩) W := by
  have hb := run_convert_bytes_back (P := Tryd.prog) W 30 9 5 ⟨B, 0, none⟩ cap (bytesOf zs n) Tryd.underlying30 Tryd.underlying5 Tryd.underlying9 (fun j hj => by
    rw [bytesOf_length] at hj
    have h1 := (h j hj).1
    rw [if_pos hj] at h1
    have e : (bytesOf zs n)[j] = UInt8.ofNat (byteAt zs j) := by simp [bytesOf]
    have h3 := byteAt_lt zs j
    have h4 : (UInt8.ofNat (byteAt zs j)).toNat = byteAt zs j := by rw [UInt8.toNat_ofNat']; omega
    have e2 : (Addr.add ⟨B, 0, none⟩ j) = ⟨B, j, none⟩ := by
      simp [Addr.add]
      exact fun h => h.symm
    rw [e2, h1, e, h4])
  rw [bytesOf_length] at hb
  exact hb
end Go.Proofs.YtphhokpbkcdljaaDoor
namespace Go.Proofs.YtphhokpbkcdljaaDoor
open Go Go.RowKit
theorem below_drewN' {B : Nat} {a w : World} (h : Below B a w) (n : Nat) : Below B a (w.drewN n) := ⟨h.os, h.tape, h.output, h.size, h.block⟩
/-- as far as k the two lists are the same -/
def Upto (xs ys : List Nat) (k : Nat) : Prop := ∀ j, j < k → xs.getD j 0 = ys.getD j 0
theorem upto_next {xs ys : List Nat} {k : Nat} (h : Upto xs ys k) (e : xs.getD k 0 = ys.getD k 0) : Upto xs ys (k + 1) := by
  intro j hj
  by_cases hk : j < k
  · exact h j hk
  · obtain rfl : j = k := by omega
    exact e
theorem upto_end {xs ys : List Nat} (hl : xs.length = ys.length) (h : Upto xs ys xs.length) : xs = ys := by
  apply List.ext_getElem hl
  intro i h1 h2
  have := h i h1
  simpa [List.getD, h1, h2] using this
def SameOut (xs ys : List Nat) (e : Ending) : Prop := e = .returned (.bool (decide (xs = ys)))
theorem sameOut_yes {xs ys : List Nat} (h : xs = ys) : SameOut xs ys (.returned (.bool true)) := by unfold SameOut; rw [decide_eq_true h]
theorem sameOut_no {xs ys : List Nat} {k : Nat} (h : xs.getD k 0 ≠ ys.getD k 0) : SameOut xs ys (.returned (.bool false)) := by
  unfold SameOut; rw [decide_eq_false (fun e => h (by rw [e]))]
end Go.Proofs.YtphhokpbkcdljaaDoor
