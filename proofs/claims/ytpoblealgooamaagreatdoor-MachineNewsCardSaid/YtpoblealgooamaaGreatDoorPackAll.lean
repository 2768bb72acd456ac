/- Contracts of the packing of texts into words. The contract of num.Pack: a slice that owns the words of the text, and nothing that lay has turned. Condition: the text is no longer than the reach. Contracts of num.Unpack and of the reference's SameWords and Among: words are read, texts are made; nothing that lay has turned. Conditions: the lists are of 64-bit words and no longer than the reach. The contract of the reference's SameWords: two lists of words are read and compared; nothing that lay has turned. Condition: the lists are no longer than the reach. -/
import Derived.RangeFuncBox
import Derived.RangeFuncLeaves
import Derived.Shelf.Abstract
import Derived.WalkKit
import Derived.OwnWalkIn
import Derived.TacticsInMore
import Derived.LoopNIn
import Derived.LoopIn
import Derived.Maps.AppendAt
import Derived.Test.YtpoblealgooamaaGreatDoorNumC
import Derived.Test.YtpoblealgooamaaGreatDoorPackMM
import Derived.Laws.MakeOwn
import Derived.RangeFuncNested
import Derived.BigQuiet
import Derived.Deep.QuietTactic
import Derived.Laws.OwnMore
import Derived.Laws.IdiomStrings
namespace Go.Proofs.YtpoblealgooamaaGreatDoor.NumL
open Go Go.RowKit Go.Shelf
attribute [local go_sem] Oper.semAt_some
set_option maxHeartbeats 400000 in
theorem wordsof_any (n : Nat) (w : World) (h : n ≤ 9223372036854775807) :
    Calls Tryz.prog 137 #[.int .i64 n] w fun e w' => e = .returned (.int .i64 (nWords n)) ∧ w = w' := by
  go_enter Tryz.func137, Tryz.ntmps137
  go_wp2
  go_ret
  exact ⟨ret_int (by unfold nWords; omega), rfl⟩
theorem or_bytes (s : ByteArray) (k : Nat) (h : k < s.size) (hk : k < 8) : bits BinOp.or IntKind.u64 ((leN (s.data.toList.take k) : Nat) : Int) (IntKind.u64.wrap (IntKind.u64.wrap ((s[k]).toNat : Int) * 2 ^ (8 * k))) = ((leN (s.data.toList.take (k + 1)) : Nat) : Int) :=
  or_take s.data.toList k (by simpa using h) hk
set_option maxHeartbeats 400000 in
theorem word_any (s : ByteArray) (w : World) (hs : s.size ≤ maxLen) :
    Calls Tryz.prog 145 #[.string s] w fun e w' => e = .returned (.int .u64 (leN (s.data.toList.take 8) : Nat)) ∧ w = w' := by
  unfold maxLen at hs
  by_cases h8 : 8 < s.size
  · go_enter Tryz.func145, Tryz.ntmps145
    go_wp2
    go_loop [3, 8] (fun x i => ∃ k : Nat, k ≤ 8 ∧ k ≤ s.size ∧ i = .int .i64 k ∧ x = .int .u64 (leN (s.data.toList.take k) : Nat)) (fun _ i => 8 - (intOf i).toNat)
    case atStart => exact ⟨0, by omega, by omega, rfl, by simp [leN]⟩
    case round =>
      obtain ⟨k, hk, hk2, rfl, rfl⟩ := hrel
      by_cases hlt : k < 8
      · have hlt2 : k < s.size := by omega
        have hlt8 : k < 8 := by omega
        have HS := Lib.hid (or_bytes s k hlt2 hlt8)
        go_wp2
        go_round
        case rel => exact ⟨k + 1, by omega, by omega, by go_num, by rw [HS.out]⟩
        case measure => simp [intOf]; omega
      · obtain rfl : k = 8 := by omega
        go_wp2
        go_ret
        exact ⟨ret_int (by first | rfl | rw [List.take_of_length_le (by simp), List.take_of_length_le (by simp; omega)]), rfl⟩
  · go_enter Tryz.func145, Tryz.ntmps145
    go_wp2
    go_loop [3, 8] (fun x i => ∃ k : Nat, k ≤ 8 ∧ k ≤ s.size ∧ i = .int .i64 k ∧ x = .int .u64 (leN (s.data.toList.take k) : Nat)) (fun _ i => 8 - (intOf i).toNat)
    case atStart => exact ⟨0, by omega, by omega, rfl, by simp [leN]⟩
    case round =>
      obtain ⟨k, hk, hk2, rfl, rfl⟩ := hrel
      by_cases hlt : k < s.size
      · have hlt2 : k < s.size := by omega
        have hlt8 : k < 8 := by omega
        have HS := Lib.hid (or_bytes s k hlt2 hlt8)
        go_wp2
        go_round
        case rel => exact ⟨k + 1, by omega, by omega, by go_num, by rw [HS.out]⟩
        case measure => simp [intOf]; omega
      · obtain rfl : k = s.size := by omega
        go_wp2
        go_ret
        exact ⟨ret_int (by first | rfl | rw [List.take_of_length_le (by simp), List.take_of_length_le (by simp; omega)]), rfl⟩
set_option maxHeartbeats 1000000 in
/-- num.Each: the text is boxed; the function value captures the box. -/
theorem each_in (F : Fence) (n : Nat) (h4 : F.fn 138) (hro : F.round = none) (s : ByteArray) (w : World) :
    CallsIn F n Tryz.prog 138 #[.string s] w fun e w' => e = .returned (.func (.func 144) #[] #[.pointer (some ⟨w.heap.size, 0, none⟩)]) ∧ w' = w.alloc (.cells #[.string s] 9) := by
  refine callsIn_of_wp Tryz.func138 rfl h4 ?_ hro
  simp only [Tryz.ntmps138, List.size_toArray, List.length_cons, List.length_nil, Nat.reduceAdd, Nat.reduceSub, Array.replicate_succ, Array.replicate_zero, List.push_toArray, List.append_toArray, List.nil_append, List.cons_append]
  gi_wp2
  go_ret
  exact ⟨rfl, rfl⟩
def upto {α : Type} (f : Nat → α) (k : Nat) : List α := (List.range k).map f
theorem upto_succ {α : Type} (f : Nat → α) (k : Nat) : upto f (k + 1) = upto f k ++ [f k] := by simp [upto, List.range_succ]
theorem upto_length {α : Type} (f : Nat → α) (k : Nat) : (upto f k).length = k := by simp [upto]
def wordAt (s : ByteArray) (k : Nat) : Nat × Nat := (k, wordN s.data.toList k)
theorem ext_take (s : ByteArray) (k : Nat) : leN ((s.extract (k * 8) s.size).data.toList.take 8) = wordN s.data.toList k := by
  unfold wordN
  have e : (s.extract (k * 8) s.size).data.toList = s.data.toList.drop (8 * k) := by
    rw [Nat.mul_comm k 8]
    simp [ByteArray.data_extract]
    exact List.take_of_length_le (by simp)
  rw [e]
theorem word_at (s : ByteArray) (k : Nat) (w : World) (hs : s.size ≤ 140737488351232) :
    Calls Tryz.prog 145 #[.string (s.extract (k * 8) s.size)] w fun e w' => e = .returned (.int .u64 (wordN s.data.toList k : Nat)) ∧ w = w' := by
  have hz : (s.extract (k * 8) s.size).size ≤ maxLen := by rw [ByteArray.size_extract]; unfold maxLen; omega
  refine (word_any _ w hz).mono ?_
  rintro e w' ⟨rfl, rfl⟩
  exact ⟨by rw [ext_take], rfl⟩
/-- what a round keeps: the box of the text -/
def KeepBox (Bs : Nat) (s : ByteArray) (A B : World) : Prop := Boxed A Bs 9 (.string s) → Boxed B Bs 9 (.string s)
set_option maxRecDepth 100000 in
set_option maxHeartbeats 2000000 in
theorem each1_in (n : Nat) (hn : 1 ≤ n) (l Bs : Nat) (s : ByteArray) (hs : s.size ≤ 140737488351232) (J Jx : List (Nat × Nat) → World → Prop)
    (hY : ∀ pre x W, J pre W → pre.length < nWords s.size → YieldAt Fence.wide (n - 1) Tryz.prog l #[.int .i64 (x.1 : Int), .int .u64 (x.2 : Int)] W fun e W' =>
      (e = .returned (.bool true) ∧ J (pre ++ [x]) W' ∧ KeepBox Bs s W W') ∨ (e = .returned (.bool false) ∧ Jx (pre ++ [x]) W'))
    (W : World) (hBs : Boxed W Bs 9 (.string s)) (h0 : J [] W) :
    CallsIn Fence.wide n Tryz.prog 144 #[.func (.yield l) #[] #[], .pointer (some ⟨Bs, 0, none⟩)] W fun e W' => (∃ v, e = .returned v) ∧
      ((∃ ys, ys = upto (wordAt s) (nWords s.size) ∧ J ys W') ∨ (∃ pre, (∃ k, k ≤ nWords s.size ∧ pre = upto (wordAt s) k) ∧ Jx pre W')) := by
  refine callsIn_of_wp Tryz.func144 rfl trivial ?_ rfl
  simp only [Tryz.ntmps144, List.size_toArray, List.length_cons, List.length_nil, Nat.reduceAdd, Nat.reduceSub, Array.replicate_succ, Array.replicate_zero, List.push_toArray, List.append_toArray, List.nil_append, List.cons_append]
  have hw0 : s.size ≤ 9223372036854775807 := by omega
  have hcx0 := hBs.cell
  gi_wp2_with (refine ⟨trivial, ?_⟩; gi_at_call 137; refine (callsIn_wide.2 (wordsof_any _ _ hw0)).mono ?_; rintro e w' ⟨rfl, rfl⟩)
  gi_loopw [7] (fun i wr => ∃ k : Nat, k ≤ nWords s.size ∧ i = .int .i64 k ∧ J (upto (wordAt s) k) wr ∧ Boxed wr Bs 9 (.string s))
    (fun i _ => nWords s.size - (intOf i).toNat)
  case atStart => exact ⟨0, Nat.zero_le _, rfl, h0, hBs⟩
  case round =>
    obtain ⟨k, hk, rfl, hJs, hnx⟩ := hrel
    have hcx := hnx.cell
    by_cases hlt : k < nWords s.size
    · obtain ⟨fn, tmps, assign, body, hy, hR⟩ := hY _ (wordAt s k) wr hJs (by rw [upto_length]; exact hlt)
      dsimp only [wordAt] at hy
      have h8 : 8 * k ≤ s.size := by unfold nWords at hlt; omega
      gi_wp2_with (refine ⟨trivial, ?_⟩; gi_at_call 145; refine (callsIn_wide.2 (word_at s k _ hs)).mono ?_; rintro e w' ⟨rfl, rfl⟩)
      refine hR.mono ?_
      rintro e W3 (⟨rfl, hJ3, hk3⟩ | ⟨rfl, hJx3⟩)
      · gi_wp2
        go_roundw
        case rel => exact ⟨k + 1, by omega, by simp, by rw [upto_succ]; exact hJ3, hk3 hnx⟩
        case measure => simp [intOf]; omega
      · gi_wp2
        refine bodyPost_ret (results_none rfl _ _ _) rfl ?_
        exact ⟨⟨_, rfl⟩, .inr ⟨_, ⟨k + 1, by omega, (upto_succ _ _).symm⟩, hJx3⟩⟩
    · obtain rfl : k = nWords s.size := by omega
      gi_wp2
      go_end0
      exact ⟨⟨_, rfl⟩, .inl ⟨_, rfl, hJs⟩⟩
end Go.Proofs.YtpoblealgooamaaGreatDoor.NumL
namespace Go.Proofs.YtpoblealgooamaaGreatDoor.NumL
open Go Go.RowKit Go.Shelf
attribute [local go_sem] Oper.semAt_some
theorem infoU64 : (Tryz.prog.info? 31).map (fun i => (i.zero, i.size, i.bytes)) = some (some (.int .u64 0), 1, 8) := by kernel_rfl
def u64s (l : List Nat) : List Value := l.map fun (n : Nat) => Value.int .u64 (n : Int)
/-- the iterator's contract, as the law of a range over a function asks for it -/
theorem each_stops (n : Nat) (hn : 1 ≤ n) (Bs : Nat) (s : ByteArray) (hs : s.size ≤ 140737488351232) (w : World) (hc : Boxed w Bs 9 (.string s)) :
    SeqStopsK Fence.wide n Tryz.prog 144 #[.pointer (some ⟨Bs, 0, none⟩)] (fun x : Nat × Nat => #[Value.int .i64 (x.1 : Int), Value.int .u64 (x.2 : Int)]) (KeepBox Bs s) (fun ys => ys = upto (wordAt s) (nWords s.size))
      (fun pre => ∃ k, k ≤ nWords s.size ∧ pre = upto (wordAt s) k) (nWords s.size) w := fun l J Jx W hW _ _ hY h0 =>
  each1_in n hn l Bs s hs J Jx hY W ((hW.block Bs hc.lt).trans hc) h0
theorem keepBox_t {Bs : Nat} {s : ByteArray} {A B C : World} (h : KeepBox Bs s A B) (k : KeepBox Bs s B C) : KeepBox Bs s A C := fun x => k (h x)
theorem keepBox_b {Bs : Nat} {s : ByteArray} {w : World} (hb : Bs < w.heap.size) (W : World) (l : Nat) (o o' : Obj) (hl : w.heap.size ≤ l) (_ : W.heap[l]? = some o) (_ : o.isCells = false) (_ : o.isWalk = false) : KeepBox Bs s W (W.putObj l o') := fun x =>
  x.kept (grownBy_putObj' W l o') (fun e => by cases e; omega)
theorem u64s_snoc (l : List Nat) (n : Nat) : u64s (l ++ [n]) = u64s l ++ [Value.int .u64 (n : Int)] := by simp [u64s]
theorem u64s_length (l : List Nat) : (u64s l).length = l.length := by simp [u64s]
theorem upto_words (s : ByteArray) : (upto (wordAt s) (nWords s.size)).map Prod.snd = packL s.data.toList := by
  simp [upto, wordAt, packL]
set_option maxRecDepth 100000 in
set_option maxHeartbeats 2000000 in
theorem pack_any (s : ByteArray) (hs : s.size ≤ 140737488351232) (w : World) :
    Calls Tryz.prog 129 #[.string s] w fun e W' => ∃ v, e = .returned v ∧ W'.ownsRow w.heap.size 31 1 v (nWords s.size) (u64s (packL s.data.toList)) ∧ Below w.heap.size w W' := by
  refine (callsIn_wide (n := 3)).1 ?_
  obtain ⟨i0, hi, hz0, hz1, hz2⟩ := info_parts infoU64
  have hnw : nWords s.size * 8 ≤ s.size + 7 := by unfold nWords; omega
  have hnm : nWords s.size ≤ maxLen := by unfold maxLen; omega
  obtain ⟨w1, hmk, hown0, hgr0⟩ := run_make_own w w.heap.size 52 31 i0 (.int .u64 0) 1 Tryz.underlying52 hi hz0 hz1 .i64 .i64 (nWords s.size) (by rw [hz2]; omega) hnm (Nat.le_refl _)
  refine callsIn_of_wp_marks Tryz.func129 rfl trivial ?_ rfl
  simp only [Tryz.ntmps129, List.size_toArray, List.length_cons, List.length_nil, Nat.reduceAdd, Nat.reduceSub, Array.replicate_succ, Array.replicate_zero, List.push_toArray, List.append_toArray, List.nil_append, List.cons_append]
  have hw0 : s.size ≤ 9223372036854775807 := by omega
  have h1 : 1 ≤ 3 - 1 := by omega
  gi_wp2_with (first | (refine ⟨trivial, ?_⟩; gi_at_call 137; refine (callsIn_wide.2 (wordsof_any _ _ hw0)).mono ?_; rintro e w' ⟨rfl, rfl⟩) | (refine ⟨trivial, ?_⟩; gi_at_call 138; refine (each_in Fence.wide _ trivial rfl _ _).mono ?_; rintro e w' ⟨rfl, rfl⟩))
  have bO := Boxed.new w1 52 (.slice (some ⟨w.heap.size, 0, none⟩) 0 (nWords s.size))
  have bN := Boxed.new (w1.alloc (.cells #[.slice (some ⟨w.heap.size, 0, none⟩) 0 (nWords s.size)] 52)) 9 (.string s)
  rw [World.size_alloc] at bN
  have hsz : w.heap.size ≤ w1.heap.size := hgr0.size
  have hB1 : Below w.heap.size w w1 := (Below.refl _ w).grown hgr0 (Nat.le_refl _) (by simp)
  have hB0 : Below w.heap.size w ((w1.alloc (.cells #[.slice (some ⟨w.heap.size, 0, none⟩) 0 (nWords s.size)] 52)).alloc (.cells #[.string s] 9)) := (hB1.alloc hsz _).alloc (by simp; omega) _
  clear hmk
  refine wpIn_rangeFunc_ownG rfl (by omega) (gf := 144) (lb := #[.pointer (some ⟨w1.heap.size + 1, 0, none⟩)]) rfl trivial (enters_of Tryz.func144 (by kernel_rfl) rfl)
    (each_stops (3 - 1) (by omega) (w1.heap.size + 1) s hs _ bN) keepBox_t (keepBox_b (by simp)) (Below.refl _ _) (fun _ => rfl)
    (fun pre W => ((∃ v, Boxed W w1.heap.size 52 v ∧ W.ownsRow w.heap.size 31 1 v pre.length (u64s (pre.map Prod.snd)) ∧ True) ∧ Boxed W (w1.heap.size + 1) 9 (.string s)) ∧ Below w.heap.size w W)
    (fun _ _ _ => False)
    (OwnFrom.and (OwnFrom.and (Own.from (holdsRow_own w.heap.size w1.heap.size 52 31 1 (fun (pre : List (Nat × Nat)) => pre.length) (fun pre => u64s (pre.map Prod.snd)) (fun _ _ => True)) _) (Own.from (boxed_own (w1.heap.size + 1) 9 (fun _ => .string s)) _)) (ownFrom_below (Nat.le_refl _) (by simp; omega)))
    (fun _ _ _ _ _ hs _ _ => hs)
    ⟨⟨⟨_, bO.alloc _, ((hown0.alloc _).alloc _), trivial⟩, bN⟩, hB0⟩
    (fun x => { tmps := #[.string s, undef, .slice none 0 0, .pointer (some ⟨w1.heap.size, 0, none⟩), undef, .int .u64 (x.2 : Int), .string s, .int .i64 s.size, .int .i64 (nWords s.size), .slice (some ⟨w.heap.size, 0, none⟩) 0 (nWords s.size), .string s, .func (.func 144) #[] #[.pointer (some ⟨w1.heap.size + 1, 0, none⟩)], .int .i64 (x.1 : Int), .int .u64 (x.2 : Int), undef, undef, undef, undef, undef], defers := [] }) ?assign ?body ?done ?stop
  case assign =>
    intro l x W K hK
    gi_wp2
    exact hK
  case body =>
    rintro l pre x W ⟨⟨⟨v, hv, hrow, _⟩, hbs⟩, hB⟩ hlt
    have hc := hv.cell
    gi_wp2_with (gi_at_builtin; refine wpListIn_append_own _ rfl _ _ 52 rfl w.heap.size 31 i0 (.int .u64 0) 1 8 Tryz.underlying52 hi hz0 hz1 hz2 rfl (by decide) _ _ _ rfl (hrow.alloc _) ⟨W.heap.size, 0, none⟩ 1 1 [.int .u64 (x.2 : Int)] rfl rfl (cell_one_new _ _ _) (by simp [Value.oneCell']) (by omega) (by omega) (by have := hB.size; simp; omega) ?_; intro v' w2 hown' hgrow _; obtain ⟨g', cap', rfl⟩ := ownsRow_succ hown'; obtain ⟨hv1, hv2, hr2, hk2, hb2⟩ := hv.appended (by decide) hrow hB.size hsz hown' hgrow; have hc1 := hv1.cell; have hf1 := hv1.frozen)
    have hbs2 : Boxed w2 (w1.heap.size + 1) 9 (.string s) := (hbs.alloc _).kept hgrow (hbs.not_row (by decide) hrow)
    have hbs3 := hbs2.other (B' := w1.heap.size) (by omega) (.slice (some ⟨g', 0, none⟩) (pre.length + 1) cap')
    exact ⟨hk2.from _, fun _ => hbs3, ⟨⟨_, hv2, by simpa [u64s_snoc] using hr2, trivial⟩, hbs3⟩, hB.trans hb2⟩
  case done =>
    rintro D ys W hD rfl ⟨⟨⟨v, hv, hrow, _⟩, _⟩, hB⟩ hK
    have hc := hv.cell
    gi_wp2
    refine ⟨by simp, .inl ⟨_, _, rfl, run_takeDeferred hK, ?_⟩⟩
    refine ⟨_, results_tmp rfl _ _ _, v, rfl, ?_, hB.trans (belowK_b (w := w) (Nat.le_refl _) W D _ _ (by simp at hD; omega) hK rfl rfl)⟩
    have := ownsRow_putObj hrow (.deferred none) hK rfl
    rw [upto_length, upto_words] at this
    exact this
  case stop =>
    rintro D c pre W _ _ h _
    exact h.elim
end Go.Proofs.YtpoblealgooamaaGreatDoor.NumL
namespace Go.Proofs.YtpoblealgooamaaGreatDoor.NumL
open Go Go.RowKit
/-- the slice value v reads as the words zs, in a block below n₀; or it is nil and there are none -/
def Words (n₀ : Nat) (W : World) (v : Value) (zs : List Nat) : Prop :=
  (v = .slice none 0 0 ∧ zs = []) ∨ ∃ b off cap, v = .slice (some ⟨b, off, none⟩) zs.length cap ∧ b < n₀ ∧ zs.length ≤ cap ∧ ∀ j, j < zs.length → W.cell? ⟨b, off + j, none⟩ = some (.int .u64 (zs.getD j 0 : Nat))
theorem Words.below {n₀ : Nat} {A B : World} (h : Below n₀ A B) {v : Value} {zs : List Nat} : Words n₀ A v zs → Words n₀ B v zs
  | .inl e => .inl e
  | .inr ⟨b, off, cap, e, hb, hl, hc⟩ => .inr ⟨b, off, cap, e, hb, hl, fun j hj => (h.cell (p := ⟨b, off + j, none⟩) hb).trans (hc j hj)⟩
theorem Words.mono {n₀ n₁ : Nat} {A : World} (h : n₀ ≤ n₁) {v : Value} {zs : List Nat} : Words n₀ A v zs → Words n₁ A v zs
  | .inl e => .inl e
  | .inr ⟨b, off, cap, e, hb, hl, hc⟩ => .inr ⟨b, off, cap, e, by omega, hl, hc⟩
theorem Words.of_own {W : World} {n₀ : Nat} {v : Value} {zs : List Nat} (h : W.ownsRow n₀ 31 1 v zs.length (u64s zs)) : Words W.heap.size W v zs := by
  rcases h.2 with ⟨rfl, h0⟩ | ⟨g, cap, cur, rfl, _, hg, h1, h2, h3, h4⟩
  · left; exact ⟨rfl, List.length_eq_zero_iff.1 h0⟩
  · right
    refine ⟨g, 0, cap, rfl, (Array.getElem?_eq_some_iff.1 hg).1, h1, fun j hj => ?_⟩
    have e : cur.toList[j]? = some (.int .u64 (zs.getD j 0 : Nat)) := by
      have : (cur.toList.take (zs.length * 1))[j]? = (u64s zs)[j]? := by rw [h4]
      rw [List.getElem?_take_of_lt (by omega)] at this
      rw [this]
      simp [u64s, hj, List.getD]
    have hc : W.cell? ⟨g, 0 + j, none⟩ = cur[j]? := by simp [World.cell?, hg]
    rw [hc, ← e]; simp
theorem Words.shape {n₀ : Nat} {W : World} {v : Value} {zs : List Nat} (h : Words n₀ W v zs) : ∃ a cap, v = .slice a zs.length cap := by
  rcases h with ⟨rfl, rfl⟩ | ⟨b, off, cap, rfl, _⟩
  · exact ⟨none, 0, rfl⟩
  · exact ⟨_, cap, rfl⟩
def Amg (n : Nat) (e : Ending) : Prop := ∃ j : Nat, j < n ∧ e = .returned (.int .i64 j)
theorem amg_mk {n : Nat} {x : Int} (h0 : 0 ≤ x) (h1 : x < n) : Amg n (.returned (.int .i64 x)) := ⟨x.toNat, by omega, ret_int (by omega)⟩
set_option maxHeartbeats 1000000 in
theorem unpack_neg (a : Option Addr) (len cap : Nat) (n : Int) (hn : n < 0) (w : World) :
    Calls Tryz.prog 132 #[.slice a len cap, .int .i64 n] w fun e w' => e = .returned (.tuple #[.string ⟨#[]⟩, .int .i64 1]) ∧ w = w' := by
  go_enter Tryz.func132, Tryz.ntmps132
  go_wp2_with fail
  go_ret2
  exact ⟨rfl, rfl⟩
set_option maxHeartbeats 1000000 in
theorem unpack_len (a : Option Addr) (len cap : Nat) (m : Nat) (hm : m ≤ 9223372036854775807) (hl : len ≠ nWords m) (w : World) :
    Calls Tryz.prog 132 #[.slice a len cap, .int .i64 m] w fun e w' => e = .returned (.tuple #[.string ⟨#[]⟩, .int .i64 1]) ∧ w = w' := by
  have hd : ((len : Int) != (nWords m : Int)) = true := by
    have : ¬ ((len : Int) = (nWords m : Int)) := by omega
    simpa using this
  have hd0 : decide ((m : Int) < 0) = false := by rw [decide_eq_false_iff_not]; omega
  clear hl
  go_enter Tryz.func132, Tryz.ntmps132
  go_wp2_with fail
  refine (wordsof_any _ _ hm).mono ?_
  rintro e w' ⟨rfl, rfl⟩
  go_wp2_with fail
  go_ret2
  exact ⟨rfl, rfl⟩
theorem shr_ne {z e : Nat} (h : z / 2 ^ e ≠ 0) : (((z : Nat) : Int) / 2 ^ e != 0) = true := by
  have : ¬ (((z : Nat) : Int) / 2 ^ e = 0) := by
    intro h2
    apply h
    have : ((z / 2 ^ e : Nat) : Int) = 0 := by rw [Int.natCast_ediv, Int.natCast_pow]; exact h2
    omega
  simpa using this
theorem shr_eq {z e : Nat} (h : z / 2 ^ e = 0) : (((z : Nat) : Int) / 2 ^ e != 0) = false := by
  have : (((z : Nat) : Int) / 2 ^ e = 0) := by
    have h2 : ((z / 2 ^ e : Nat) : Int) = 0 := by omega
    rw [Int.natCast_ediv, Int.natCast_pow] at h2; exact h2
  simpa using this
set_option maxHeartbeats 1000000 in
theorem unpack_last (b off cap len m z : Nat) (hm : m ≤ 140737488351232) (hl : len = nWords m) (hr : m % 8 ≠ 0) (hb : z / 2 ^ (8 * (m % 8)) ≠ 0) (w : World)
    (hc : w.cell? ⟨b, off + (len - 1), none⟩ = some (.int .u64 (z : Nat))) :
    Calls Tryz.prog 132 #[.slice (some ⟨b, off, none⟩) len cap, .int .i64 m] w fun e w' => e = .returned (.tuple #[.string ⟨#[]⟩, .int .i64 1]) ∧ w = w' := by
  have hd : ((len : Int) != (nWords m : Int)) = false := by
    have : ((len : Int) = (nWords m : Int)) := by omega
    simpa using this
  have hd0 : decide ((m : Int) < 0) = false := by rw [decide_eq_false_iff_not]; omega
  have hm0 : m ≤ 9223372036854775807 := by omega
  have hpos : 1 ≤ len := by unfold nWords at hl; omega
  have hlz : len ≤ 140737488351232 := by unfold nWords at hl; omega
  have hr1 : ((m : Int) % 8 != 0) = true := by
    have : ¬ ((m : Int) % 8 = 0) := by omega
    simpa using this
  have hs := shr_ne hb
  clear hr hb hl
  go_enter Tryz.func132, Tryz.ntmps132
  go_wp2_with fail
  refine (wordsof_any _ _ hm0).mono ?_
  rintro e w' ⟨rfl, rfl⟩
  go_wp2_with fail
  go_ret2
  exact ⟨rfl, rfl⟩
theorem infoU8 : (Tryz.prog.info? 5).map (fun i => (i.zero, i.size, i.bytes)) = some (some (.int .u8 0), 1, 1) := by kernel_rfl
/-- what the bytes made so far are: block B holds n bytes, the first k of them those of the words -/
def Made (B n k : Nat) (zs : List Nat) (W : World) : Prop := ∀ j, j < n → W.cell? ⟨B, j, none⟩ = some (.int .u8 ((if j < k then byteAt zs j else 0 : Nat) : Int)) ∧ W.frozen? ⟨B, j, none⟩ = false
theorem byte_cast (z e : Nat) : ((z : Nat) : Int) / 2 ^ e % 256 = ((z / 2 ^ e % 256 : Nat) : Int) := by
  rw [Int.natCast_emod, Int.natCast_ediv, Int.natCast_pow]; rfl
theorem byte_is {zs : List Nat} {k z : Nat} (h : zs.getD (k / 8) 0 = z) : ((z : Nat) : Int) / 2 ^ (8 * (k % 8)) % 256 = ((byteAt zs k : Nat) : Int) := by
  rw [byte_cast]; unfold byteAt; rw [h]
theorem made_start (w : World) (m : Nat) (zs : List Nat) : Made w.heap.size m 0 zs (w.alloc (.cells (madeCells #[.int .u8 0] m) 5)) := by
  intro j hj
  refine ⟨?_, World.frozen?_alloc_new _ _ _ _⟩
  have h : (madeCells #[Value.int .u8 0] m)[j]? = some (Value.int .u8 0) := by
    rw [← Array.getElem?_toList, toList_madeCells_one, List.getElem?_replicate, if_pos hj]
  rw [World.cell?_alloc_mark w _ 5 (0, 0) j, h]
  rfl
theorem made_step {B n k : Nat} {zs : List Nat} {W : World} (h : Made B n k zs W) (hk : k < n) : Made B n (k + 1) zs (W.setCell ⟨B, k, none⟩ (.int .u8 (byteAt zs k : Nat))) := by
  intro j hj
  obtain ⟨h1, h2⟩ := h j hj
  refine ⟨?_, by rw [World.frozen?_setCell]; exact h2⟩
  by_cases e : j = k
  · subst e
    rw [World.cell?_setCell_same _ _ _ h1, if_pos (by omega)]
  · rw [World.cell?_setCell_other _ _ _ _ (fun x => e (by injection x with _ h4; exact h4.symm)), h1]
    by_cases h3 : j < k
    · rw [if_pos h3, if_pos (by omega)]
    · rw [if_neg h3, if_neg (by omega)]
theorem made_end {B n : Nat} {zs : List Nat} {W : World} (h : Made B n n zs W) (cap : Nat) : (convert 171 9 (.slice (some ⟨B, 0, none⟩) n cap)).run Tryz.prog W = .ok (.string ⟨(bytesOf zs n).toArray⟩) W := by
  have hb := run_convert_bytes_back (P := Tryz.prog) W 171 9 5 ⟨B, 0, none⟩ cap (bytesOf zs n) Tryz.underlying171 Tryz.underlying5 Tryz.underlying9 (fun j hj => by
    rw [bytesOf_length] at hj
    have h1 := (h j hj).1
    rw [if_pos hj] at h1
    have e : (bytesOf zs n)[j] = UInt8.ofNat (byteAt zs j) := by simp [bytesOf]
    have h3 := byteAt_lt zs j
    have h4 : (UInt8.ofNat (byteAt zs j)).toNat = byteAt zs j := by rw [UInt8.toNat_ofNat']; omega
    have e2 : (Addr.add ⟨B, 0, none⟩ j) = ⟨B, j, none⟩ := by
      simp [Addr.add]
      exact fun h => h.symm
    rw [e2, h1, e, h4])
  rw [bytesOf_length] at hb
  exact hb
set_option maxHeartbeats 2000000 in
theorem unpack_some (b off cap m : Nat) (zs : List Nat) (hm : m ≤ 140737488351232) (hu : UOk zs m) (w : World) (hbw : b < w.heap.size)
    (hc : ∀ j, j < zs.length → w.cell? ⟨b, off + j, none⟩ = some (.int .u64 (zs.getD j 0 : Nat))) :
    Calls Tryz.prog 132 #[.slice (some ⟨b, off, none⟩) zs.length cap, .int .i64 m] w fun e w' => e = .returned (.tuple #[.string ⟨(bytesOf zs m).toArray⟩, .int .i64 0]) ∧ Below w.heap.size w w' := by
  obtain ⟨i0, hi, hz0, hz1, hz2⟩ := info_parts infoU8
  have hmk := run_make (P := Tryz.prog) w 171 5 i0 (.int .u8 0) Tryz.underlying171 hi hz0 .i64 .i64 m m (by omega) (Int.le_refl _) (by rw [hz2]; omega) (by omega)
  simp only [Int.toNat_natCast, hz1, Nat.mul_one] at hmk
  have hM0 := made_start w m zs
  have hB0 : Below w.heap.size w (w.alloc (.cells (madeCells #[.int .u8 0] m) 5)) := (Below.refl _ _).alloc (Nat.le_refl _) _
  obtain ⟨w1, hw1⟩ : ∃ w1, w.alloc (.cells (madeCells (Value.int .u8 0).cells m) 5) = w1 := ⟨_, rfl⟩
  rw [hw1] at hmk
  have hw2 : w.alloc (.cells (madeCells #[.int .u8 0] m) 5) = w1 := hw1
  rw [hw2] at hM0 hB0
  have HM0 := Lib.hid hM0
  clear hw1 hw2 hM0 hi hz0 hz1 hz2
  have hl := hu.1
  have hd : ((zs.length : Int) != (nWords m : Int)) = false := by
    have : ((zs.length : Int) = (nWords m : Int)) := by omega
    simpa using this
  have hd0 : decide ((m : Int) < 0) = false := by rw [decide_eq_false_iff_not]; omega
  have hm0 : m ≤ 9223372036854775807 := by omega
  have hlz : zs.length ≤ 140737488351232 := by unfold nWords at hl; omega
  have HL := Lib.hid hl
  have HC := Lib.hid hc
  have HU := Lib.hid hu
  have hmm : ∀ k, k < m → k / 8 < zs.length := by intro k hk; rw [hl]; unfold nWords; omega
  have HMM := Lib.hid hmm
  clear hc hl hu hmm
  by_cases hr : m % 8 = 0
  · have hr1 : ((m : Int) % 8 != 0) = false := by
      have : ((m : Int) % 8 = 0) := by omega
      simpa using this
    clear hr
    go_enter Tryz.func132, Tryz.ntmps132
    go_wp2_with fail
    refine (wordsof_any _ _ hm0).mono ?_
    rintro e w' ⟨rfl, rfl⟩
    go_wp2_with fail
    clear hmk
    go_loopw [38] (fun i wr => ∃ k : Nat, k ≤ m ∧ i = .int .i64 k ∧ Made w.heap.size m k zs wr ∧ Below w.heap.size w wr) (fun i _ => m - (intOf i).toNat)
    case atStart => exact ⟨0, by omega, rfl, HM0.out, hB0⟩
    case round =>
      obtain ⟨k, hk, rfl, hM, hB⟩ := hrel
      have HM := Lib.hid hM
      clear hM
      by_cases hlt : k < m
      · obtain ⟨z, hz⟩ : ∃ z, zs.getD (k / 8) 0 = z := ⟨_, rfl⟩
        have hkz := HMM.out k hlt
        have hcz := HC.out (k / 8) hkz
        have hcx : wr.cell? ⟨b, off + k / 8, none⟩ = some (.int .u64 (z : Nat)) := by rw [hB.cell (p := ⟨b, off + k / 8, none⟩) hbw, hcz, hz]
        obtain ⟨hcy, hfy⟩ := HM.out k hlt
        have HZ := Lib.hid hz
        clear hz hcz
        go_wp2_with fail
        go_roundw
        case rel => exact ⟨k + 1, hlt, by simp, by rw [byte_is HZ.out]; exact made_step HM.out hlt, hB.setCell (p := ⟨w.heap.size, k, none⟩) (Nat.le_refl _) _⟩
        case measure => simp [intOf]; omega
      · obtain rfl : k = m := by omega
        have hend := made_end HM.out k
        go_wp2_with fail
        go_ret2
        exact ⟨rfl, hB⟩
  · have hr1 : ((m : Int) % 8 != 0) = true := by
      have : ¬ ((m : Int) % 8 = 0) := by omega
      simpa using this
    have hpos : 1 ≤ zs.length := by have := HL.out; unfold nWords at this; omega
    have hlast := HU.out.2 hr
    obtain ⟨zl, hzl⟩ : ∃ z, zs.getD (zs.length - 1) 0 = z := ⟨_, rfl⟩
    rw [hzl] at hlast
    have hs := shr_eq hlast
    have hcl : w.cell? ⟨b, off + (zs.length - 1), none⟩ = some (.int .u64 (zl : Nat)) := by rw [HC.out (zs.length - 1) (by omega), hzl]
    clear hr hlast hzl
    go_enter Tryz.func132, Tryz.ntmps132
    go_wp2_with fail
    refine (wordsof_any _ _ hm0).mono ?_
    rintro e w' ⟨rfl, rfl⟩
    go_wp2_with fail
    clear hmk
    go_loopw [38] (fun i wr => ∃ k : Nat, k ≤ m ∧ i = .int .i64 k ∧ Made w.heap.size m k zs wr ∧ Below w.heap.size w wr) (fun i _ => m - (intOf i).toNat)
    case atStart => exact ⟨0, by omega, rfl, HM0.out, hB0⟩
    case round =>
      obtain ⟨k, hk, rfl, hM, hB⟩ := hrel
      have HM := Lib.hid hM
      clear hM
      by_cases hlt : k < m
      · obtain ⟨z, hz⟩ : ∃ z, zs.getD (k / 8) 0 = z := ⟨_, rfl⟩
        have hkz := HMM.out k hlt
        have hcz := HC.out (k / 8) hkz
        have hcx : wr.cell? ⟨b, off + k / 8, none⟩ = some (.int .u64 (z : Nat)) := by rw [hB.cell (p := ⟨b, off + k / 8, none⟩) hbw, hcz, hz]
        obtain ⟨hcy, hfy⟩ := HM.out k hlt
        have HZ := Lib.hid hz
        clear hz hcz
        go_wp2_with fail
        go_roundw
        case rel => exact ⟨k + 1, hlt, by simp, by rw [byte_is HZ.out]; exact made_step HM.out hlt, hB.setCell (p := ⟨w.heap.size, k, none⟩) (Nat.le_refl _) _⟩
        case measure => simp [intOf]; omega
      · obtain rfl : k = m := by omega
        have hend := made_end HM.out k
        go_wp2_with fail
        go_ret2
        exact ⟨rfl, hB⟩
set_option maxHeartbeats 2000000 in
theorem unpack_nil (w : World) : Calls Tryz.prog 132 #[.slice none 0 0, .int .i64 0] w fun e w' => e = .returned (.tuple #[.string ⟨(bytesOf [] 0).toArray⟩, .int .i64 0]) ∧ Below w.heap.size w w' := by
  obtain ⟨i0, hi, hz0, hz1, hz2⟩ := info_parts infoU8
  have hmk := run_make (P := Tryz.prog) w 171 5 i0 (.int .u8 0) Tryz.underlying171 hi hz0 .i64 .i64 0 0 (by omega) (Int.le_refl _) (by rw [hz2]; omega) (by omega)
  simp only [hz1, Int.toNat_zero, Nat.mul_one] at hmk
  have hM0 := made_start w 0 []
  have hB0 : Below w.heap.size w (w.alloc (.cells (madeCells #[.int .u8 0] 0) 5)) := (Below.refl _ _).alloc (Nat.le_refl _) _
  obtain ⟨w1, hw1⟩ : ∃ w1, w.alloc (.cells (madeCells (Value.int .u8 0).cells 0) 5) = w1 := ⟨_, rfl⟩
  rw [hw1] at hmk
  have hw2 : w.alloc (.cells (madeCells #[.int .u8 0] 0) 5) = w1 := hw1
  rw [hw2] at hM0 hB0
  have hend := made_end hM0 0
  clear hw1 hw2 hM0 hi hz0 hz1 hz2
  have hwo : nWords 0 = 0 := rfl
  have HW := Lib.hid (wordsof_any 0 w (by decide))
  clear hwo
  go_enter Tryz.func132, Tryz.ntmps132
  go_wp2_with fail
  refine (HW.out).mono ?_
  rintro e w' ⟨rfl, rfl⟩
  have hwo : nWords 0 = 0 := rfl
  go_wp2_with fail
  go_loopw [38] (fun i wr => i = .int .i64 0 ∧ wr = w1) (fun _ _ => 0)
  case atStart => exact ⟨rfl, rfl⟩
  case round =>
    obtain ⟨rfl, rfl⟩ := hrel
    go_wp2_with fail
    go_ret2
    exact ⟨rfl, hB0⟩
/-- num.Unpack at right words -/
theorem unpack_yes (v : Value) (zs : List Nat) (m : Nat) (hm : m ≤ 140737488351232) (hu : UOk zs m) (w : World) (hv : Words w.heap.size w v zs) :
    Calls Tryz.prog 132 #[v, .int .i64 m] w fun e w' => e = .returned (.tuple #[.string ⟨(bytesOf zs m).toArray⟩, .int .i64 0]) ∧ Below w.heap.size w w' := by
  rcases hv with ⟨rfl, rfl⟩ | ⟨b, off, cap, rfl, hb, _, hc⟩
  · have h0 : m = 0 := by have := hu.1; unfold nWords at this; simp at this; omega
    subst h0
    exact unpack_nil w
  · exact unpack_some b off cap m zs hm hu w hb hc
/-- .. and at words that are of no text of n bytes -/
theorem unpack_err (v : Value) (zs : List Nat) (m : Nat) (hm : m ≤ 140737488351232) (hu : ¬ UOk zs m) (w : World) (hv : Words w.heap.size w v zs) :
    Calls Tryz.prog 132 #[v, .int .i64 m] w fun e w' => e = .returned (.tuple #[.string ⟨#[]⟩, .int .i64 1]) ∧ w = w' := by
  by_cases hl : zs.length = nWords m
  · have h2 : ∃ _ : m % 8 ≠ 0, zs.getD (zs.length - 1) 0 / 2 ^ (8 * (m % 8)) ≠ 0 := by
      by_cases hr : m % 8 ≠ 0
      · refine ⟨hr, fun h => hu ⟨hl, fun _ => h⟩⟩
      · exact (hu ⟨hl, fun h => (hr h).elim⟩).elim
    obtain ⟨hr, hb⟩ := h2
    rcases hv with ⟨_, rfl⟩ | ⟨b, off, cap, rfl, _, _, hc⟩
    · simp [nWords] at hl; omega
    · exact unpack_last b off cap zs.length m _ hm hl hr hb w (hc _ (by unfold nWords at hl; omega))
  · obtain ⟨a, cap, rfl⟩ := hv.shape
    exact unpack_len a zs.length cap m (by omega) hl w
end Go.Proofs.YtpoblealgooamaaGreatDoor.NumL
namespace Go.Proofs.YtpoblealgooamaaGreatDoor.NumL
open Go Go.RowKit
theorem below_drewN' {B : Nat} {a w : World} (h : Below B a w) (n : Nat) : Below B a (w.drewN n) := ⟨h.os, h.tape, h.output, h.size, h.block⟩
set_option maxHeartbeats 1000000 in
theorem same_len (a b : Option Addr) (la lb ca cb : Nat) (h : la ≠ lb) (w : World) :
    Calls Tryz.prog 33 #[.slice a la ca, .slice b lb cb] w fun e w' => e = .returned (.bool false) ∧ Below w.heap.size w w' := by
  have hd : ((la : Int) != (lb : Int)) = true := by
    have : ¬ ((la : Int) = (lb : Int)) := by omega
    simpa using this
  clear h
  go_enter Tryz.func33, Tryz.ntmps33
  go_wp2
  go_ret
  exact ⟨rfl, Below.refl _ _⟩
set_option maxHeartbeats 1000000 in
theorem same_empty (a b : Option Addr) (ca cb : Nat) (w : World) :
    Calls Tryz.prog 33 #[.slice a 0 ca, .slice b 0 cb] w fun e w' => e = .returned (.bool true) ∧ Below w.heap.size w w' := by
  go_enter Tryz.func33, Tryz.ntmps33
  go_wp2
  go_loopw [5] (fun i wr => i = .int .i64 0 ∧ wr = w) (fun _ _ => 0)
  case atStart => exact ⟨rfl, rfl⟩
  case round =>
    obtain ⟨rfl, rfl⟩ := hrel
    go_wp2
    go_ret
    exact ⟨rfl, Below.refl _ _⟩
/-- as far as k the two lists are the same -/
def Upto (xs ys : List Nat) (k : Nat) : Prop := ∀ j, j < k → xs.getD j 0 = ys.getD j 0
theorem upto_next {xs ys : List Nat} {k : Nat} (h : Upto xs ys k) (e : xs.getD k 0 = ys.getD k 0) : Upto xs ys (k + 1) := by
  intro j hj
  by_cases hk : j < k
  · exact h j hk
  · obtain rfl : j = k := by omega
    exact e
theorem upto_end {xs ys : List Nat} (hl : xs.length = ys.length) (h : Upto xs ys xs.length) : xs = ys := by
  apply List.ext_getElem hl
  intro i h1 h2
  have := h i h1
  simpa [List.getD, h1, h2] using this
def SameOut (xs ys : List Nat) (e : Ending) : Prop := e = .returned (.bool (decide (xs = ys)))
theorem sameOut_yes {xs ys : List Nat} (h : xs = ys) : SameOut xs ys (.returned (.bool true)) := by unfold SameOut; rw [decide_eq_true h]
theorem sameOut_no {xs ys : List Nat} {k : Nat} (h : xs.getD k 0 ≠ ys.getD k 0) : SameOut xs ys (.returned (.bool false)) := by
  unfold SameOut; rw [decide_eq_false (fun e => h (by rw [e]))]
set_option maxHeartbeats 2000000 in
theorem same_some (b1 o1 c1 b2 o2 c2 : Nat) (xs ys : List Nat) (hl : xs.length = ys.length) (hx : xs.length ≤ 140737488351232) (w : World) (hb1 : b1 < w.heap.size) (hb2 : b2 < w.heap.size)
    (h1 : ∀ j, j < xs.length → w.cell? ⟨b1, o1 + j, none⟩ = some (.int .u64 (xs.getD j 0 : Nat))) (h2 : ∀ j, j < ys.length → w.cell? ⟨b2, o2 + j, none⟩ = some (.int .u64 (ys.getD j 0 : Nat))) :
    Calls Tryz.prog 33 #[.slice (some ⟨b1, o1, none⟩) xs.length c1, .slice (some ⟨b2, o2, none⟩) ys.length c2] w fun e w' => SameOut xs ys e ∧ Below w.heap.size w w' := by
  have H1 := Lib.hid h1
  have H2 := Lib.hid h2
  have HL := Lib.hid hl
  have hd : ((xs.length : Int) != (ys.length : Int)) = false := by
    have : ((xs.length : Int) = (ys.length : Int)) := by omega
    simpa using this
  have hle : xs.length ≤ ys.length := by omega
  clear h1 h2 hl
  go_enter Tryz.func33, Tryz.ntmps33
  go_wp2
  go_loopw [5] (fun i wr => ∃ k : Nat, k ≤ xs.length ∧ i = .int .i64 k ∧ Upto xs ys k ∧ Below w.heap.size w wr) (fun i _ => xs.length - (intOf i).toNat)
  case atStart => exact ⟨0, by omega, rfl, fun _ h => by omega, Below.refl _ _⟩
  case round =>
    obtain ⟨k, hk, rfl, hU, hB⟩ := hrel
    have HU := Lib.hid hU
    clear hU
    by_cases hlt : k < xs.length
    · have hlt2 : k < ys.length := by omega
      obtain ⟨x, hx1⟩ : ∃ x, xs.getD k 0 = x := ⟨_, rfl⟩
      obtain ⟨y, hy1⟩ : ∃ y, ys.getD k 0 = y := ⟨_, rfl⟩
      have hcx : wr.cell? ⟨b1, o1 + k, none⟩ = some (.int .u64 (x : Nat)) := by rw [hB.cell (p := ⟨b1, o1 + k, none⟩) hb1, H1.out k hlt, hx1]
      have hcy : wr.cell? ⟨b2, o2 + k, none⟩ = some (.int .u64 (y : Nat)) := by rw [hB.cell (p := ⟨b2, o2 + k, none⟩) hb2, H2.out k hlt2, hy1]
      have HX := Lib.hid hx1
      have HY := Lib.hid hy1
      clear hx1 hy1
      by_cases hxy : x = y
      · have hdn : ((x : Int) != (y : Int)) = false := by
          have : ((x : Int) = (y : Int)) := by omega
          simpa using this
        have HXY := Lib.hid hxy
        clear hxy
        go_wp2
        go_quiet (fail)
        go_wp2
        go_roundw
        case rel => exact ⟨k + 1, hlt, by simp, upto_next HU.out (by rw [HX.out, HY.out]; exact HXY.out), below_drewN' hB _⟩
        case measure => simp [intOf]; omega
      · have hdn : ((x : Int) != (y : Int)) = true := by
          have : ¬ ((x : Int) = (y : Int)) := by omega
          simpa using this
        have HXY := Lib.hid hxy
        clear hxy
        go_wp2
        go_quiet (fail)
        go_wp2
        go_ret
        exact ⟨sameOut_no (k := k) (by rw [HX.out, HY.out]; exact HXY.out), below_drewN' hB _⟩
    · obtain rfl : k = xs.length := by omega
      go_wp2
      go_ret
      exact ⟨sameOut_yes (upto_end HL.out HU.out), hB⟩
/-- SameWords: whether two lists of words are the same -/
theorem same_any (v1 v2 : Value) (xs ys : List Nat) (hx : xs.length ≤ 140737488351232) (w : World) (h1 : Words w.heap.size w v1 xs) (h2 : Words w.heap.size w v2 ys) :
    Calls Tryz.prog 33 #[v1, v2] w fun e w' => SameOut xs ys e ∧ Below w.heap.size w w' := by
  obtain ⟨a1, c1, e1⟩ := h1.shape
  obtain ⟨a2, c2, e2⟩ := h2.shape
  by_cases hl : xs.length = ys.length
  · by_cases h0 : xs.length = 0
    · have hx0 : xs = [] := List.length_eq_zero_iff.1 h0
      have hy0 : ys = [] := List.length_eq_zero_iff.1 (by omega)
      subst hx0
      subst hy0
      rw [e1, e2]
      exact (same_empty a1 a2 c1 c2 w).mono fun e w' ⟨he, hb⟩ => ⟨by subst he; exact sameOut_yes rfl, hb⟩
    · rcases h1 with ⟨_, rfl⟩ | ⟨b1, o1, c1, rfl, hb1, _, hc1⟩
      · simp at h0
      · rcases h2 with ⟨_, rfl⟩ | ⟨b2, o2, c2, rfl, hb2, _, hc2⟩
        · exact (h0 (by rw [hl]; rfl)).elim
        · exact same_some b1 o1 c1 b2 o2 c2 xs ys hl hx w hb1 hb2 hc1 hc2
  · rw [e1, e2]
    refine (same_len a1 a2 xs.length ys.length c1 c2 hl w).mono ?_
    rintro e w' ⟨rfl, hb⟩
    refine ⟨?_, hb⟩
    unfold SameOut
    rw [decide_eq_false (fun e => hl (by rw [e]))]
end Go.Proofs.YtpoblealgooamaaGreatDoor.NumL
