/- Contracts of the packing of texts into words. -/
import Derived.RangeFuncBox
import Derived.RangeFuncLeaves
import Derived.Shelf.Abstract
import Derived.WalkKit
import Derived.OwnWalkIn
import Derived.TacticsInMore
import Derived.LoopNIn
import Derived.LoopIn
import Derived.Maps.AppendAt
import Derived.Test.YtlakfnlkiebpdaaDoorNumC
import Derived.Test.YtlakfnlkiebpdaaDoorPackM
namespace Go.Proofs.YtlakfnlkiebpdaaDoor.NumL
open Go Go.RowKit Go.Shelf
attribute [local go_sem] Oper.semAt_some
set_option maxHeartbeats 400000 in
theorem wordsof_any (n : Nat) (w : World) (h : n ≤ 9223372036854775807) :
    Calls Tryd.prog 77 #[.int .i64 n] w fun e w' => e = .returned (.int .i64 (nWords n)) ∧ w = w' := by
  go_enter Tryd.func77, Tryd.ntmps77
  go_wp2
  go_ret
  exact ⟨ret_int (by unfold nWords; omega), rfl⟩
theorem or_bytes (s : ByteArray) (k : Nat) (h : k < s.size) (hk : k < 8) : bits BinOp.or IntKind.u64 ((leN (s.data.toList.take k) : Nat) : Int) (IntKind.u64.wrap (IntKind.u64.wrap ((s[k]).toNat : Int) * 2 ^ (8 * k))) = ((leN (s.data.toList.take (k + 1)) : Nat) : Int) :=
  or_take s.data.toList k (by simpa using h) hk
set_option maxHeartbeats 400000 in
theorem word_any (s : ByteArray) (w : World) (hs : s.size ≤ maxLen) :
    Calls Tryd.prog 101 #[.string s] w fun e w' => e = .returned (.int .u64 (leN (s.data.toList.take 8) : Nat)) ∧ w = w' := by
  unfold maxLen at hs
  by_cases h8 : 8 < s.size
  · go_enter Tryd.func101, Tryd.ntmps101
    go_wp2
    go_loop [3, 8] (fun x i => ∃ k : Nat, k ≤ 8 ∧ k ≤ s.size ∧ i = .int .i64 k ∧ x = .int .u64 (leN (s.data.toList.take k) : Nat)) (fun _ i => 8 - (intOf i).toNat)
    case atStart => exact ⟨0, by omega, by omega, rfl, by simp [leN]⟩
    case round =>
      obtain ⟨k, hk, hk2, rfl, rfl⟩ := hrel
      by_cases hlt : k < 8
      · have hlt2 : k < s.size := by omega
        have hlt8 : k < 8 := by omega
        have HS := Lib.hid (or_bytes s k hlt2 hlt8)
        go_wp2
        go_round
        case rel => exact ⟨k + 1, by omega, by omega, by go_num, by rw [HS.out]⟩
        case measure => simp [intOf]; omega
      · obtain rfl : k = 8 := by omega
        go_wp2
        go_ret
        exact ⟨ret_int (by first | rfl | rw [List.take_of_length_le (by simp), List.take_of_length_le (by simp; omega)]), rfl⟩
  · go_enter Tryd.func101, Tryd.ntmps101
    go_wp2
    go_loop [3, 8] (fun x i => ∃ k : Nat, k ≤ 8 ∧ k ≤ s.size ∧ i = .int .i64 k ∧ x = .int .u64 (leN (s.data.toList.take k) : Nat)) (fun _ i => 8 - (intOf i).toNat)
    case atStart => exact ⟨0, by omega, by omega, rfl, by simp [leN]⟩
    case round =>
      obtain ⟨k, hk, hk2, rfl, rfl⟩ := hrel
      by_cases hlt : k < s.size
      · have hlt2 : k < s.size := by omega
        have hlt8 : k < 8 := by omega
        have HS := Lib.hid (or_bytes s k hlt2 hlt8)
        go_wp2
        go_round
        case rel => exact ⟨k + 1, by omega, by omega, by go_num, by rw [HS.out]⟩
        case measure => simp [intOf]; omega
      · obtain rfl : k = s.size := by omega
        go_wp2
        go_ret
        exact ⟨ret_int (by first | rfl | rw [List.take_of_length_le (by simp), List.take_of_length_le (by simp; omega)]), rfl⟩
set_option maxHeartbeats 1000000 in
/-- num.Each: the text is boxed; the function value captures the box. -/
theorem each_in (F : Fence) (n : Nat) (h4 : F.fn 78) (hro : F.round = none) (s : ByteArray) (w : World) :
    CallsIn F n Tryd.prog 78 #[.string s] w fun e w' => e = .returned (.func (.func 100) #[] #[.pointer (some ⟨w.heap.size, 0, none⟩)]) ∧ w' = w.alloc (.cells #[.string s] 9) := by
  refine callsIn_of_wp Tryd.func78 rfl h4 ?_ hro
  simp only [Tryd.ntmps78, List.size_toArray, List.length_cons, List.length_nil, Nat.reduceAdd, Nat.reduceSub, Array.replicate_succ, Array.replicate_zero, List.push_toArray, List.append_toArray, List.nil_append, List.cons_append]
  gi_wp2
  go_ret
  exact ⟨rfl, rfl⟩
def upto {α : Type} (f : Nat → α) (k : Nat) : List α := (List.range k).map f
theorem upto_succ {α : Type} (f : Nat → α) (k : Nat) : upto f (k + 1) = upto f k ++ [f k] := by simp [upto, List.range_succ]
theorem upto_length {α : Type} (f : Nat → α) (k : Nat) : (upto f k).length = k := by simp [upto]
def wordAt (s : ByteArray) (k : Nat) : Nat × Nat := (k, wordN s.data.toList k)
theorem ext_take (s : ByteArray) (k : Nat) : leN ((s.extract (k * 8) s.size).data.toList.take 8) = wordN s.data.toList k := by
  unfold wordN
  have e : (s.extract (k * 8) s.size).data.toList = s.data.toList.drop (8 * k) := by
    rw [Nat.mul_comm k 8]
    simp [ByteArray.data_extract]
    exact List.take_of_length_le (by simp)
  rw [e]
theorem word_at (s : ByteArray) (k : Nat) (w : World) (hs : s.size ≤ 140737488351232) :
    Calls Tryd.prog 101 #[.string (s.extract (k * 8) s.size)] w fun e w' => e = .returned (.int .u64 (wordN s.data.toList k : Nat)) ∧ w = w' := by
  have hz : (s.extract (k * 8) s.size).size ≤ maxLen := by rw [ByteArray.size_extract]; unfold maxLen; omega
  refine (word_any _ w hz).mono ?_
  rintro e w' ⟨rfl, rfl⟩
  exact ⟨by rw [ext_take], rfl⟩
/-- what a round keeps: the box of the text -/
def KeepBox (Bs : Nat) (s : ByteArray) (A B : World) : Prop := Boxed A Bs 9 (.string s) → Boxed B Bs 9 (.string s)
set_option maxRecDepth 100000 in
set_option maxHeartbeats 2000000 in
theorem each1_in (n : Nat) (hn : 1 ≤ n) (l Bs : Nat) (s : ByteArray) (hs : s.size ≤ 140737488351232) (J Jx : List (Nat × Nat) → World → Prop)
    (hY : ∀ pre x W, J pre W → pre.length < nWords s.size → YieldAt Fence.wide (n - 1) Tryd.prog l #[.int .i64 (x.1 : Int), .int .u64 (x.2 : Int)] W fun e W' =>
      (e = .returned (.bool true) ∧ J (pre ++ [x]) W' ∧ KeepBox Bs s W W') ∨ (e = .returned (.bool false) ∧ Jx (pre ++ [x]) W'))
    (W : World) (hBs : Boxed W Bs 9 (.string s)) (h0 : J [] W) :
    CallsIn Fence.wide n Tryd.prog 100 #[.func (.yield l) #[] #[], .pointer (some ⟨Bs, 0, none⟩)] W fun e W' => (∃ v, e = .returned v) ∧
      ((∃ ys, ys = upto (wordAt s) (nWords s.size) ∧ J ys W') ∨ (∃ pre, (∃ k, k ≤ nWords s.size ∧ pre = upto (wordAt s) k) ∧ Jx pre W')) := by
  refine callsIn_of_wp Tryd.func100 rfl trivial ?_ rfl
  simp only [Tryd.ntmps100, List.size_toArray, List.length_cons, List.length_nil, Nat.reduceAdd, Nat.reduceSub, Array.replicate_succ, Array.replicate_zero, List.push_toArray, List.append_toArray, List.nil_append, List.cons_append]
  have hw0 : s.size ≤ 9223372036854775807 := by omega
  have hcx0 := hBs.cell
  gi_wp2_with (refine ⟨trivial, ?_⟩; gi_at_call 77; refine (callsIn_wide.2 (wordsof_any _ _ hw0)).mono ?_; rintro e w' ⟨rfl, rfl⟩)
  gi_loopw [7] (fun i wr => ∃ k : Nat, k ≤ nWords s.size ∧ i = .int .i64 k ∧ J (upto (wordAt s) k) wr ∧ Boxed wr Bs 9 (.string s))
    (fun i _ => nWords s.size - (intOf i).toNat)
  case atStart => exact ⟨0, Nat.zero_le _, rfl, h0, hBs⟩
  case round =>
    obtain ⟨k, hk, rfl, hJs, hnx⟩ := hrel
    have hcx := hnx.cell
    by_cases hlt : k < nWords s.size
    · obtain ⟨fn, tmps, assign, body, hy, hR⟩ := hY _ (wordAt s k) wr hJs (by rw [upto_length]; exact hlt)
      dsimp only [wordAt] at hy
      have h8 : 8 * k ≤ s.size := by unfold nWords at hlt; omega
      gi_wp2_with (refine ⟨trivial, ?_⟩; gi_at_call 101; refine (callsIn_wide.2 (word_at s k _ hs)).mono ?_; rintro e w' ⟨rfl, rfl⟩)
      refine hR.mono ?_
      rintro e W3 (⟨rfl, hJ3, hk3⟩ | ⟨rfl, hJx3⟩)
      · gi_wp2
        go_roundw
        case rel => exact ⟨k + 1, by omega, by simp, by rw [upto_succ]; exact hJ3, hk3 hnx⟩
        case measure => simp [intOf]; omega
      · gi_wp2
        refine bodyPost_ret (results_none rfl _ _ _) rfl ?_
        exact ⟨⟨_, rfl⟩, .inr ⟨_, ⟨k + 1, by omega, (upto_succ _ _).symm⟩, hJx3⟩⟩
    · obtain rfl : k = nWords s.size := by omega
      gi_wp2
      go_end0
      exact ⟨⟨_, rfl⟩, .inl ⟨_, rfl, hJs⟩⟩
end Go.Proofs.YtlakfnlkiebpdaaDoor.NumL
