/- The iterator of lines. Conditions: the text is not over-long; the library's bound on searches holds some integer. -/
import Derived.Test.YtfpgalckmfdcmaaDoorIsaLineC
namespace Go.Proofs.YtfpgalckmfdcmaaDoor
open Go Go.RowKit Go.Shelf
attribute [local go_sem] Oper.semAt_some
theorem cut_any (r : List UInt8) (hr : r.length ≤ 60000) (m : Int) (w : World) (hm : w.cell? ⟨1, 0, none⟩ = some (.int .i64 m)) :
    Calls Tryd.prog 38 #[.string ⟨r.toArray⟩, .string ⟨#[10]⟩] w fun e w' => e = .returned (.tuple #[lineV (lineHead r), lineV (lineTail r), .bool (Lib.cut r [10]).2.2]) ∧ ∃ n, w' = w.drewN n := by
  refine (Tryd.strings_Cut ⟨r.toArray⟩ ⟨#[10]⟩ m w (by show r.toArray.size < _; rw [List.size_toArray]; omega) hm).mono ?_
  rintro e w' ⟨rfl, hw⟩
  refine ⟨?_, hw⟩
  obtain ⟨h1, h2⟩ := cut10 r
  unfold lineV
  rw [← h1, ← h2]
set_option maxHeartbeats 1000000 in
/-- isa.Lines: the text is boxed; the function value captures the box. -/
theorem lines_in (F : Fence) (n : Nat) (h4 : F.fn 20) (hro : F.round = none) (s : ByteArray) (w : World) :
    CallsIn F n Tryd.prog 20 #[.string s] w fun e w' => e = .returned (.func (.func 37) #[] #[.pointer (some ⟨w.heap.size, 0, none⟩)]) ∧ w' = w.alloc (.cells #[.string s] 9) := by
  refine callsIn_of_wp Tryd.func20 rfl h4 ?_ hro
  simp only [Tryd.ntmps20, List.size_toArray, List.length_cons, List.length_nil, Nat.reduceAdd, Nat.reduceSub, Array.replicate_succ, Array.replicate_zero, List.push_toArray, List.append_toArray, List.nil_append, List.cons_append]
  gi_wp2
  go_ret
  exact ⟨rfl, rfl⟩
def lineAt (l : List UInt8) (k : Nat) : List UInt8 := (linesOf l).getD k []
/-- what a round keeps: the library's bound -/
def KeepM (m : Int) (A B : World) : Prop := A.cell? ⟨1, 0, none⟩ = some (.int .i64 m) → B.cell? ⟨1, 0, none⟩ = some (.int .i64 m)
set_option maxRecDepth 100000 in
set_option maxHeartbeats 2000000 in
theorem lines1_in (n : Nat) (hn : 1 ≤ n) (l Bs : Nat) (s : ByteArray) (m : Int) (hs : s.size ≤ 60000) (J Jx : List Nat → World → Prop)
    (hJ : ∀ pre (W1 : World) k, J pre W1 → J pre (W1.drewN k))
    (hY : ∀ pre (x : Nat) W, J pre W → pre.length < (linesOf s.data.toList).length → YieldAt Fence.wide (n - 1) Tryd.prog l #[.int .i64 (x : Int), lineV (lineAt s.data.toList x)] W fun e W' =>
      (e = .returned (.bool true) ∧ J (pre ++ [x]) W' ∧ KeepM m W W') ∨ (e = .returned (.bool false) ∧ Jx (pre ++ [x]) W'))
    (W : World) (hBs : Boxed W Bs 9 (.string s)) (hm : W.cell? ⟨1, 0, none⟩ = some (.int .i64 m)) (h0 : J [] W) :
    CallsIn Fence.wide n Tryd.prog 37 #[.func (.yield l) #[] #[], .pointer (some ⟨Bs, 0, none⟩)] W fun e W' => (∃ v, e = .returned v) ∧
      ((∃ ys, ys = List.range (linesOf s.data.toList).length ∧ J ys W') ∨ (∃ pre, (∃ k, k ≤ (linesOf s.data.toList).length ∧ pre = List.range k) ∧ Jx pre W')) := by
  refine callsIn_of_wp Tryd.func37 rfl trivial ?_ rfl
  simp only [Tryd.ntmps37, List.size_toArray, List.length_cons, List.length_nil, Nat.reduceAdd, Nat.reduceSub, Array.replicate_succ, Array.replicate_zero, List.push_toArray, List.append_toArray, List.nil_append, List.cons_append]
  have hcx0 := hBs.cell
  obtain ⟨L, hL⟩ : ∃ L, s.data.toList = L := ⟨_, rfl⟩
  have hsv : Value.string s = lineV L := by rw [← hL]; rfl
  have hLl : L.length ≤ 60000 := by rw [← hL, Array.length_toList]; exact hs
  rw [hL] at hY ⊢
  rw [hsv] at hcx0
  obtain ⟨N, hN⟩ : ∃ N, (linesOf L).length = N := ⟨_, rfl⟩
  have hN6 : N ≤ 60000 := by rw [← hN]; exact linesOf_len 60000 L hLl
  rw [hN] at hY ⊢
  have HN := Lib.hid hN
  have HY := Lib.hid hY
  have HJ := Lib.hid hJ
  have HZ := Lib.hid h0
  have HM := Lib.hid hm
  have HLL := Lib.hid hLl
  clear hY hJ h0 hm hBs hL hsv hN hLl
  unfold lineV at hcx0
  gi_wp2_with fail
  gi_loopw [3, 4] (fun r i wr => ∃ (k : Nat) (t : List UInt8), k ≤ N ∧ i = .int .i64 k ∧ r = .string ⟨t.toArray⟩ ∧ t.length ≤ 60000 ∧ (linesOf L).drop k = linesOf t ∧ J (List.range k) wr ∧ wr.cell? ⟨1, 0, none⟩ = some (.int .i64 m))
    (fun _ i _ => N - (intOf i).toNat)
  case atStart => exact ⟨0, L, Nat.zero_le _, rfl, rfl, HLL.out, rfl, HZ.out, HM.out⟩
  case round =>
    obtain ⟨k, t, hk, rfl, rfl, ht, hd, hJs, hmm⟩ := hrel
    by_cases h0 : t = []
    · subst h0
      have hkN : N = k := by
        have := congrArg List.length hd
        rw [List.length_drop, HN.out] at this
        simp [linesOf] at this
        omega
      have HJs := Lib.hid hJs
      clear hd hJs hmm
      gi_wp2
      go_end0
      exact ⟨⟨_, rfl⟩, .inl ⟨_, by rw [hkN], HJs.out⟩⟩
    · have hlt : k < N := by
        have := congrArg List.length hd
        rw [List.length_drop, HN.out] at this
        have := List.length_pos_iff.2 (linesOf_ne h0)
        omega
      have hst := linesOf_step h0
      rw [hst] at hd
      have hla : lineAt L k = lineHead t := by
        unfold lineAt
        have h1 : (linesOf L)[k]? = some (lineHead t) := by
          have := congrArg (·[0]?) hd
          simpa [List.getElem?_drop] using this
        rw [List.getD_eq_getElem?_getD, h1]; rfl
      have hdn : (linesOf L).drop (k + 1) = linesOf (lineTail t) := by
        have := congrArg (List.drop 1) hd
        rw [List.drop_drop] at this
        simpa using this
      have htl := lineTail_lt h0
      have HLA := Lib.hid hla
      have HDN := Lib.hid hdn
      have HTL : Hid ((lineTail t).length ≤ 60000) := Lib.hid (by omega)
      have HJs := Lib.hid hJs
      have HMM := Lib.hid hmm
      have HLT := Lib.hid hlt
      have HT := Lib.hid ht
      have hne : t.isEmpty = false := by cases t <;> simp_all
      clear hla hdn htl hJs hmm hlt ht hst hd
      gi_wp2_with fail
      refine ⟨trivial, ?_⟩
      refine (callsIn_wide.2 (cut_any t HT.out m wr HMM.out)).mono ?_
      rintro e w1 ⟨rfl, n1, hw1⟩
      have HM1 : Hid (w1.cell? ⟨1, 0, none⟩ = some (.int .i64 m)) := Lib.hid (by rw [hw1]; exact HMM.out)
      have hJ1 : J (List.range k) w1 := by rw [hw1]; exact HJ.out _ _ _ HJs.out
      obtain ⟨fn, tmps, assign, body, hy, hR⟩ := HY.out (List.range k) k w1 hJ1 (by rw [List.length_range]; exact HLT.out)
      rw [HLA.out] at hy
      have HR := Lib.hid hR
      clear hw1 hJ1 hR
      unfold lineV at hy ⊢
      gi_wp2_with fail
      refine HR.out.mono ?_
      rintro e W3 (⟨rfl, hJ3, hk3⟩ | ⟨rfl, hJx3⟩)
      · have HM3 := Lib.hid (hk3 HM1.out)
        have HJ3 := Lib.hid (show J (List.range (k + 1)) W3 from by rw [List.range_succ]; exact hJ3)
        have hltx := HLT.out
        clear hJ3 hk3
        gi_wp2_with fail
        go_roundw
        case rel => exact ⟨k + 1, lineTail t, HLT.out, by go_num, rfl, HTL.out, HDN.out, HJ3.out, HM3.out⟩
        case measure => have := HLT.out; simp [intOf]; omega
      · have HX := Lib.hid hJx3
        clear hJx3
        gi_wp2
        refine bodyPost_ret (results_none rfl _ _ _) rfl ?_
        exact ⟨⟨_, rfl⟩, .inr ⟨_, ⟨k + 1, HLT.out, by rw [List.range_succ]⟩, HX.out⟩⟩
/-- the contract, as the law of a range over a function asks for it -/
theorem lines_stops (n : Nat) (hn : 1 ≤ n) (Bs : Nat) (s : ByteArray) (m : Int) (hs : s.size ≤ 60000) (w : World) (hc : Boxed w Bs 9 (.string s)) (hm : w.cell? ⟨1, 0, none⟩ = some (.int .i64 m)) :
    SeqStopsK Fence.wide n Tryd.prog 37 #[.pointer (some ⟨Bs, 0, none⟩)] (fun x : Nat => #[Value.int .i64 (x : Int), lineV (lineAt s.data.toList x)]) (KeepM m) (fun ys => ys = List.range (linesOf s.data.toList).length) (fun pre => ∃ k, k ≤ (linesOf s.data.toList).length ∧ pre = List.range k) (linesOf s.data.toList).length w := fun l J Jx W1 hW hJ _ hY h0 =>
  lines1_in n hn l Bs s m hs J Jx (fun pre W2 k hJ2 => hJ pre W2 _ none hJ2 ⟨rfl, rfl, rfl, Nat.le_refl _, fun _ _ _ => rfl⟩ (fun r e => by cases e)) hY W1 ((hW.block Bs hc.lt).trans hc) ((hW.cell (p := ⟨1, 0, none⟩) (World.block_lt_of_cell? w _ hm)).trans hm) h0
theorem put_other {W : World} {k l : Nat} (h : k ≠ l) (o : Obj) : (W.putObj k o).heap[l]? = W.heap[l]? := by
  show (W.heap.setIfInBounds k o)[l]? = _
  rw [Array.getElem?_setIfInBounds, if_neg h]
def cellOf (W : World) (R : Nat) : Value := (W.cell? ⟨R, 0, none⟩).getD undef
theorem keepM_t {m : Int} {A B C : World} (h : KeepM m A B) (k : KeepM m B C) : KeepM m A C := fun x => k (h x)
theorem keepM_b {m : Int} {w : World} (hb : 1 < w.heap.size) (W : World) (l : Nat) (o o' : Obj) (hl : w.heap.size ≤ l) (_ : W.heap[l]? = some o) (_ : o.isCells = false) (_ : o.isWalk = false) : KeepM m W (W.putObj l o') := fun x => by
  have hne : 1 ≠ l := by omega
  exact (World.cell?_of_block (put_other (fun e => hne e.symm) o')).trans x
end Go.Proofs.YtfpgalckmfdcmaaDoor
