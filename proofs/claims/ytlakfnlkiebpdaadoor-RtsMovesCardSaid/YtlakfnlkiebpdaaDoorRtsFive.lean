/- The iterator of a list's elements. Condition: the scene. The contract of list. Condition: the scene. The contract of tellOf, where that of constructor holds. Condition: the scene. -/
import Derived.Test.YtlakfnlkiebpdaaDoorRtsFour
import Derived.Test.YtlakfnlkiebpdaaDoorRangeBnd
import Derived.Shelf.Abstract
import Derived.Shelf.RegionOpen
import Derived.OwnWalkIn
import Derived.TacticsInMore
namespace Go.Proofs.YtlakfnlkiebpdaaDoor
open Go Go.RowKit Go.Shelf
attribute [local go_sem] Oper.semAt_some
section
variable {w : World} {b W h N : Nat} {now old : List Ob} {R : Nat → Value} {a : Option Addr} {ms : List Mkr}
def encE (x : Nat × Bool) : Array Value := #[.int .u64 (x.1 : Int), .bool x.2]
/-- what a round keeps: what lay ahead, and the teller's box -/
def KpL (v0 : World) (Bt : Nat) (A B : World) : Prop := Below v0.heap.size A B ∧ B.heap[Bt]? = A.heap[Bt]?
theorem kpL_t {v0 : World} {Bt : Nat} {A B C : World} (h : KpL v0 Bt A B) (k : KpL v0 Bt B C) : KpL v0 Bt A C := ⟨h.1.trans k.1, k.2.trans h.2⟩
theorem kpL_b {v0 w : World} {Bt : Nat} (hn : v0.heap.size ≤ w.heap.size) (hB : Bt < w.heap.size) (W : World) (l : Nat) (o o' : Obj) (hl : w.heap.size ≤ l) (h : W.heap[l]? = some o) (h1 : o.isCells = false) (h2 : o.isWalk = false) : KpL v0 Bt W (W.putObj l o') :=
  ⟨belowK_b (w := w) hn W l o o' hl h h1 h2, World.putObj_heap_other (by omega)⟩
structure Kb (v0 : World) (b : Nat) (a : Option Addr) (N c Bt : Nat) (W1 : World) : Prop where
  base : Below v0.heap.size v0 W1
  box : W1.heap[Bt]? = some (.cells #[.pointer (some ⟨b, 0, none⟩), .slice a N c] 115 (0, 0))
theorem Kb.keep {v0 : World} {b : Nat} {a : Option Addr} {N c Bt : Nat} {W1 W2 : World} (h : Kb v0 b a N c Bt W1) (k : KpL v0 Bt W1 W2) : Kb v0 b a N c Bt W2 := ⟨h.base.trans k.1, k.2.trans h.box⟩
theorem Kb.trans {v0 : World} {b : Nat} {a : Option Addr} {N c Bt : Nat} {W1 W2 : World} (h : Kb v0 b a N c Bt W1) (k : Below W1.heap.size W1 W2) : Kb v0 b a N c Bt W2 := ⟨h.base.trans (k.mono h.base.size), (k.block _ (Array.getElem?_eq_some_iff.1 h.box).1).trans h.box⟩
theorem Kb.c0 {v0 : World} {b : Nat} {a : Option Addr} {N c Bt : Nat} {W1 : World} (h : Kb v0 b a N c Bt W1) : W1.cell? ⟨Bt, 0, none⟩ = some (.pointer (some ⟨b, 0, none⟩)) := (blk_cellT h.box 0).trans rfl
theorem Kb.c1 {v0 : World} {b : Nat} {a : Option Addr} {N c Bt : Nat} {W1 : World} (h : Kb v0 b a N c Bt W1) : W1.cell? ⟨Bt, 1, none⟩ = some (.slice a N c) := (blk_cellT h.box 1).trans rfl
/-- between two rounds -/
def ElR (L : Nat → Option (Nat × List Nat)) (K : World → Prop) (l Bw Bt w : Nat) (J : List (Nat × Bool) → World → Prop) (k : Nat) (ac : Act) (W1 : World) : Prop :=
  ∃ (pre : List (Nat × Bool)) (r : Nat) (u3 u5 u6 u7 u8 u9 u10 u11 u12 u13 u14 u15 u16 u17 u18 u19 u20 u21 u22 u23 u24 u25 u26 u27 u28 u29 u30 u31 : Value), k = pre.length ∧ ac = { tmps := #[.func (.yield l) #[] #[], .pointer (some ⟨Bw, 0, none⟩), .pointer (some ⟨Bt, 0, none⟩), u3, .int .u64 (r : Int), u5, u6, u7, u8, u9, u10, u11, u12, u13, u14, u15, u16, u17, u18, u19, u20, u21, u22, u23, u24, u25, u26, u27, u28, u29, u30, u31], defers := [] } ∧ r < 18446744073709551616 ∧ J pre W1 ∧ Told L w pre r ∧ K W1
theorem cellL_word (s : Sc w b W h now old R a N ms) {n : Nat} {c : Nat × Nat} (h1 : cellL (LN now h W) n = some c) : c.1 < 18446744073709551616 ∧ c.2 < 18446744073709551616 := by
  unfold cellL at h1
  cases q : tupL (LN now h W) n 2 with
  | none => rw [q] at h1; cases h1
  | some ws =>
    rw [q] at h1
    simp only at h1
    split at h1
    · cases q2 : tupL (LN now h W) (ws.getD 1 0) 2 with
      | none => rw [q2] at h1; cases h1
      | some us =>
        rw [q2] at h1
        obtain rfl := Option.some.inj h1
        exact ⟨tupL_word s q2 0, tupL_word s q2 1⟩
    · cases h1
set_option maxRecDepth 100000 in
set_option maxHeartbeats 8000000 in
theorem elem_in {v0 : World} (s : Sc v0 b W h now old R a N ms) (hvw : Below v0.heap.size v0 w) (c x : Nat) (hx : x < 18446744073709551616) (Bw Bt M : Nat) (hbw : w.cell? ⟨Bw, 0, none⟩ = some (.int .u64 (x : Int))) (hb0 : w.heap[Bt]? = some (.cells #[.pointer (some ⟨b, 0, none⟩), .slice a N c] 115 (0, 0))) (n : Nat) (hn : 1 ≤ n) :
    SeqBnd Fence.wide n Tryd.prog 118 #[.pointer (some ⟨Bw, 0, none⟩), .pointer (some ⟨Bt, 0, none⟩)] encE (KpL v0 Bt) (TellS (LN now h W) x) (TellE (LN now h W) x) M w := by
  intro l J Jx W0 hW0 hJ0 _ hM hY h00
  have hJ : ∀ pre W1 W2, J pre W1 → Below W1.heap.size W1 W2 → J pre W2 := fun pre W1 W2 hJ1 hb => hJ0 pre W1 W2 none hJ1 ⟨hb.os, hb.tape, hb.output, hb.size, fun k hk _ => hb.block k hk⟩ (fun r e => by cases e)
  refine callsIn_of_wp Tryd.func118 rfl trivial ?_ rfl
  simp only [Tryd.ntmps118, List.size_toArray, List.length_cons, List.length_nil, Nat.reduceAdd, Nat.reduceSub, Array.replicate_succ, Array.replicate_zero, List.push_toArray, List.append_toArray, List.nil_append, List.cons_append]
  have c0 := below_cell hW0 hbw
  have HS := Lib.hid s
  have HK0 := Lib.hid (show Kb v0 b a N c Bt W0 from Kb.trans ⟨hvw, hb0⟩ hW0)
  have HY := Lib.hid hY
  have HJ := Lib.hid hJ
  have HM := Lib.hid hM
  have HZ := Lib.hid h00
  have HI := Lib.hid (fun W1 : World => show Calls Tryd.prog 83 #[.int .i64 0] W1 (fun e w' => e = .returned (.int .u64 1) ∧ w' = W1) from (int_any 0 W1).mono fun e w' ⟨h1, h2⟩ => ⟨by rw [h1]; rfl, h2.symm⟩)
  clear s hbw hb0 hY hJ0 hJ hM hW0 h00 hvw
  gi_wp2_with fail
  refine wpIn_loop_bnd M (ElR (LN now h W) (Kb v0 b a N c Bt) l Bw Bt x J) ?start ?bound ?step
  case start => exact ⟨[], x, _, _, _, _, _, _, _, _, _, _, _, _, _, _, _, _, _, _, _, _, _, _, _, _, _, _, _, _, rfl, rfl, hx, HZ.out, .nil, HK0.out⟩
  case bound => rintro k ac W1 ⟨pre, r, _, _, _, _, _, _, _, _, _, _, _, _, _, _, _, _, _, _, _, _, _, _, _, _, _, _, _, _, rfl, _, _, hj, _⟩; exact HM.out pre W1 hj
  case step =>
    rintro k ac W1 ⟨pre, r, u3, u5, u6, u7, u8, u9, u10, u11, u12, u13, u14, u15, u16, u17, u18, u19, u20, u21, u22, u23, u24, u25, u26, u27, u28, u29, u30, u31, rfl, rfl, hr, hj, ht, hbw⟩
    have HR := Lib.hid (And.intro hr (And.intro hj (And.intro ht hbw)))
    have x0 := hbw.c0
    have x1 := hbw.c1
    by_cases h1 : r = 1
    · subst h1
      clear hj ht hbw hr
      gi_wp2_with fail
      refine ⟨trivial, ?_⟩
      refine (callsIn_wide.2 (HI.out _)).mono ?_
      rintro e w1 ⟨rfl, hw1⟩
      subst w1
      gi_wp2_with fail
      go_end0
      exact ⟨⟨_, rfl⟩, .inl ⟨_, .inl HR.out.2.2.1, HR.out.2.1⟩⟩
    · have hne : ((r : Int) != 1) = true := by rw [bne_iff_ne]; omega
      have HC := Lib.hid (cell_any (HS.out.below hbw.base) c r hr)
      have HNE := Lib.hid h1
      cases hc : cellL (LN now h W) r with
      | none =>
        rw [hc] at HC
        have HCN := Lib.hid hc
        clear hj ht hbw hc h1
        gi_wp2_with fail
        refine ⟨trivial, ?_⟩
        refine (callsIn_wide.2 (HI.out _)).mono ?_
        rintro e w1 ⟨rfl, hw1⟩
        subst w1
        gi_wp2_with fail
        refine ⟨trivial, ?_⟩
        refine (callsIn_wide.2 HC.out).mono ?_
        rintro e w2 ⟨⟨A, he⟩, hb2⟩
        subst he
        obtain ⟨fn, tmps, assign, body, hy, hR⟩ := HY.out pre (0, false) w2 (HJ.out _ _ _ HR.out.2.1 hb2) (.inr ⟨pre, r, HR.out.2.2.1, HNE.out, HCN.out, rfl⟩)
        have HRR := Lib.hid hR
        simp only [encE, show (((0 : Nat)) : Int) = 0 from rfl] at hy
        clear hR hb2
        gi_wp2_with fail
        refine HRR.out.mono ?_
        rintro e w3 (⟨rfl, hj3, _⟩ | ⟨rfl, hj3⟩)
        · have HJ3 := Lib.hid hj3
          clear hj3
          gi_wp2_with fail
          refine bodyPost_ret (results_none rfl _ _ _) rfl ?_
          exact ⟨⟨_, rfl⟩, .inl ⟨_, .inr ⟨pre, r, HR.out.2.2.1, HNE.out, HCN.out, rfl⟩, HJ3.out⟩⟩
        · have HJ3 := Lib.hid hj3
          clear hj3
          gi_wp2_with fail
          refine bodyPost_ret (results_none rfl _ _ _) rfl ?_
          exact ⟨⟨_, rfl⟩, .inr ⟨_, .inr ⟨pre, r, HR.out.2.2.1, HNE.out, HCN.out, rfl⟩, HJ3.out⟩⟩
      | some p =>
        rw [hc] at HC
        have HCN := Lib.hid hc
        have hpw := cellL_word (HS.out.below hbw.base) hc
        clear hj ht hbw hc h1
        gi_wp2_with fail
        refine ⟨trivial, ?_⟩
        refine (callsIn_wide.2 (HI.out _)).mono ?_
        rintro e w1 ⟨rfl, hw1⟩
        subst w1
        gi_wp2_with fail
        refine ⟨trivial, ?_⟩
        refine (callsIn_wide.2 HC.out).mono ?_
        rintro e w2 ⟨⟨m, ws, hm, hmb, hp, he⟩, hb2⟩
        subst he
        have hwl : ws.length = 2 := by obtain ⟨_, _, _, _, h⟩ := tupL_of hm; exact h
        have HB2 := Lib.hid (HR.out.2.2.2.trans hb2)
        have HF := Lib.hid (fun (j : Nat) (hj : j < 2) Y (hY : Below v0.heap.size v0 Y) => field_any (HS.out.below hY) hm j (by omega))
        have hp1 : ws.getD 0 0 = p.1 := by rw [hp]
        have hp2 : ws.getD 1 0 = p.2 := by rw [hp]
        have HJ2 := Lib.hid (HJ.out _ _ _ HR.out.2.1 hb2)
        have HF0 := Lib.hid (show Calls Tryd.prog 64 #[.pointer (some ⟨b, 0, none⟩), .int .i64 (toP (m : Int)), .int .i64 0] w2 (fun e w' => e = .returned (.int .u64 (p.1 : Int)) ∧ ∃ n, w' = w2.drewN n) from by have hh := HF.out 0 (by decide) w2 HB2.out.base; rw [hp1] at hh; exact hh)
        have HF1 := Lib.hid (fun Y (hY : Below v0.heap.size v0 Y) => show Calls Tryd.prog 64 #[.pointer (some ⟨b, 0, none⟩), .int .i64 (toP (m : Int)), .int .i64 1] Y (fun e w' => e = .returned (.int .u64 (p.2 : Int)) ∧ ∃ n, w' = Y.drewN n) from by have hh := HF.out 1 (by decide) Y hY; rw [hp2] at hh; exact hh)
        have y0 := HB2.out.c0
        clear hp hb2 hm hwl HF hp1 hp2 x0 x1
        gi_wp2_with fail
        refine ⟨trivial, ?_⟩
        refine (callsIn_wide.2 HF0.out).mono ?_
        rintro e w3 ⟨rfl, q3, hw3⟩
        have hb3 : Below w2.heap.size w2 w3 := by rw [hw3]; exact Below.drewN' (Below.refl _ _) q3
        have HB3 := Lib.hid (HB2.out.trans hb3)
        obtain ⟨fn, tmps, assign, body, hy, hR⟩ := HY.out pre (p.1, true) w3 (HJ.out _ _ _ HJ2.out hb3) (.inl ⟨p.2, .snoc pre r p HR.out.2.2.1 HNE.out HCN.out⟩)
        have HRR := Lib.hid hR
        simp only [encE] at hy
        clear hR hw3 hb3 y0
        gi_wp2_with fail
        refine HRR.out.mono ?_
        rintro e w4 (⟨rfl, hj4, hk4⟩ | ⟨rfl, hj4⟩)
        · have HJ4 := Lib.hid hj4
          have HB4 := Lib.hid (HB3.out.keep hk4)
          have z0 := HB4.out.c0
          clear hj4 hk4
          gi_wp2_with fail
          refine ⟨trivial, ?_⟩
          refine (callsIn_wide.2 (HF1.out _ HB4.out.base)).mono ?_
          rintro e w5 ⟨rfl, q5, hw5⟩
          have hb5 : Below w4.heap.size w4 w5 := by rw [hw5]; exact Below.drewN' (Below.refl _ _) q5
          have HJ5 := Lib.hid (HJ.out _ _ _ HJ4.out hb5)
          have HB5 := Lib.hid (HB4.out.trans hb5)
          clear hw5 hb5 z0
          gi_wp2_with fail
          exact ⟨pre ++ [(p.1, true)], p.2, _, _, _, _, _, _, _, _, _, _, _, _, _, _, _, _, _, _, _, _, _, _, _, _, _, _, _, _, by simp, rfl, hpw.2, HJ5.out, .snoc pre r p HR.out.2.2.1 HNE.out HCN.out, HB5.out⟩
        · have HJ4 := Lib.hid hj4
          clear hj4
          gi_wp2_with fail
          refine bodyPost_ret (results_none rfl _ _ _) rfl ?_
          exact ⟨⟨_, rfl⟩, .inr ⟨_, .inl ⟨p.2, .snoc pre r p HR.out.2.2.1 HNE.out HCN.out⟩, HJ4.out⟩⟩
end
end Go.Proofs.YtlakfnlkiebpdaaDoor
namespace Go.Proofs.YtlakfnlkiebpdaaDoor
open Go Go.RowKit Go.Shelf
attribute [local go_sem] Oper.semAt_some
section
variable {w : World} {b W h N : Nat} {now old : List Ob} {R : Nat → Value} {a : Option Addr} {ms : List Mkr} {f : Nat → Ty → List UInt8 × Bool}
theorem elements_any (c n : Nat) (W1 : World) : Calls Tryd.prog 114 #[tlr b a N c, .int .u64 (n : Int)] W1 fun e w' => e = .returned (.func (.func 118) #[] #[.pointer (some ⟨W1.heap.size + 1, 0, none⟩), .pointer (some ⟨W1.heap.size, 0, none⟩)]) ∧
    w' = (W1.alloc (tlrO b a N c)).alloc (.cells #[.int .u64 (n : Int)] 33) := by
  go_enter Tryd.func114, Tryd.ntmps114
  go_wp2_with fail
  go_ret
  exact ⟨rfl, rfl⟩
/-- what lies where when the list's loop begins -/
structure L8 (w w8 : World) (b : Nat) (a : Option Addr) (N c : Nat) (ty : Array Value) (dep : Int) (n : Nat) : Prop where
  base : Below w.heap.size w w8
  size : w8.heap.size = w.heap.size + 8
  b0 : w8.heap[w.heap.size]? = some (.cells #[.pointer (some ⟨b, 0, none⟩), .slice a N c] 115 (0, 0))
  b1 : w8.heap[w.heap.size + 1]? = some (.cells ty 61 (0, 0))
  b2 : w8.heap[w.heap.size + 2]? = some (.cells #[.int .i64 dep] 3 (0, 0))
  b3 : Boxed w8 (w.heap.size + 3) 9 (.string ⟨#[]⟩)
  b4 : Boxed w8 (w.heap.size + 4) 9 (.string ⟨#[91]⟩)
  b5 : Boxed w8 (w.heap.size + 5) 9 (.string ⟨#[]⟩)
  b6 : w8.heap[w.heap.size + 6]? = some (.cells #[.pointer (some ⟨b, 0, none⟩), .slice a N c] 115 (0, 0))
  b7 : Boxed w8 (w.heap.size + 7) 33 (.int .u64 (n : Int))
theorem l8_mk (w : World) (b : Nat) (a : Option Addr) (N c : Nat) (ty : Array Value) (dep : Int) (n : Nat) :
    L8 w ((((((((w.alloc (tlrO b a N c)).alloc (.cells ty 61)).alloc (.cells #[.int .i64 dep] 3)).alloc (.cells #[.string ⟨#[]⟩] 9)).alloc (.cells #[.string ⟨#[91]⟩] 9)).alloc (.cells #[.string ⟨#[]⟩] 9)).alloc (tlrO b a N c)).alloc (.cells #[.int .u64 (n : Int)] 33)) b a N c ty dep n := by
  refine ⟨?_, by simp, ?_, ?_, ?_, ?_, ?_, ?_, ?_, ?_⟩
  · have h1 := below_two w (tlrO b a N c) (.cells ty 61)
    exact ((((((h1.alloc h1.size _).alloc (by simp; omega) _).alloc (by simp; omega) _).alloc (by simp; omega) _).alloc (by simp; omega) _).alloc (by simp; omega) _)
  all_goals (repeat (first | (refine new_at _ _ _ ?_; first | rfl | (simp; done)) | refine old_at _ _ ?_))
theorem tellS_word (s : Sc w b W h now old R a N ms) {n x : Nat} {pre : List (Nat × Bool)} (hS : TellS (LN now h W) n (pre ++ [(x, true)])) : x < 18446744073709551616 := by
  rcases hS with ⟨r, ht⟩ | ⟨p, r, _, _, _, e⟩
  · generalize hg : pre ++ [(x, true)] = g at ht
    cases ht with
    | nil => simp at hg
    | snoc p r0 q _ _ hc =>
      obtain ⟨_, e2⟩ := List.append_inj' hg rfl
      simp only [List.cons.injEq, Prod.mk.injEq, and_true] at e2
      rw [e2]
      exact (cellL_word s hc).1
  · obtain ⟨_, e2⟩ := List.append_inj' e rfl
    simp at e2
theorem keepsFrom_below {B : Nat} {X Y : World} (hb : Below X.heap.size X Y) : KeepsFrom B X Y := ⟨hb.size, fun k _ _ hk _ => (hb.block k (Array.getElem?_eq_some_iff.1 hk).1).trans hk⟩
theorem kpL_below {v0 X Y : World} {Bt : Nat} (hn : v0.heap.size ≤ X.heap.size) (hB : Bt < X.heap.size) (hb : Below X.heap.size X Y) : KpL v0 Bt X Y := ⟨hb.mono hn, hb.block _ hB⟩
theorem kpL_set {v0 X : World} {Bt B : Nat} (hn : v0.heap.size ≤ B) (hB : B ≠ Bt) (v : Value) : KpL v0 Bt X (X.setCell ⟨B, 0, none⟩ v) := ⟨(Below.refl _ X).setCell (p := ⟨B, 0, none⟩) hn v, blk_otherT X (fun e => hB e.symm) 0 v⟩
def ListI (w w8 : World) (b : Nat) (a : Option Addr) (N c : Nat) (el : Nat → List UInt8) (pre : List (Nat × Bool)) (W' : World) : Prop :=
  Boxed W' (w.heap.size + 4) 9 (.string (bst (strE el pre).1)) ∧ Boxed W' (w.heap.size + 5) 9 (.string (bst (strE el pre).2)) ∧ (strE el pre).1.length ≤ 500 ∧ Below (w.heap.size + 4) w8 W' ∧ Kb w b a N c (w.heap.size + 6) W'
def ListX (w w8 : World) (el : Nat → List UInt8) (cd : Code) (pre : List (Nat × Bool)) (W' : World) : Prop :=
  cd = .ret ∧ (∃ p x, pre = p ++ [x] ∧ (strE el p).1.length ≤ 500 ∧ 500 < (strE el pre).1.length) ∧ Boxed W' (w.heap.size + 3) 9 (.string (bst (strE el pre).1)) ∧ Below (w.heap.size + 3) w8 W'
theorem list_next {w8 W' V : World} {c : Nat} {el : Nat → List UInt8} {pre : List (Nat × Bool)} (hI : ListI w w8 b a N c el pre W') (hz : w8.heap.size = w.heap.size + 8) (hb : Below W'.heap.size W' V) (y : Nat × Bool) {S1 : List UInt8} (hst : strE el (pre ++ [y]) = (S1, [44, 32])) (hl : S1.length ≤ 500) :
    KeepsFrom w8.heap.size W' ((V.setCell ⟨w.heap.size + 4, 0, none⟩ (.string (bst S1))).setCell ⟨w.heap.size + 5, 0, none⟩ (.string (bst [44, 32]))) ∧ KpL w (w.heap.size + 6) W' ((V.setCell ⟨w.heap.size + 4, 0, none⟩ (.string (bst S1))).setCell ⟨w.heap.size + 5, 0, none⟩ (.string (bst [44, 32]))) ∧
      ListI w w8 b a N c el (pre ++ [y]) ((V.setCell ⟨w.heap.size + 4, 0, none⟩ (.string (bst S1))).setCell ⟨w.heap.size + 5, 0, none⟩ (.string (bst [44, 32]))) := by
  obtain ⟨h4, h5, _, hbw, hkb⟩ := hI
  have hs := hbw.size
  have v4 : Boxed V (w.heap.size + 4) 9 _ := (hb.block _ (by omega)).trans h4
  have v5 : Boxed V (w.heap.size + 5) 9 _ := (hb.block _ (by omega)).trans h5
  have hkp : KpL w (w.heap.size + 6) W' ((V.setCell ⟨w.heap.size + 4, 0, none⟩ (.string (bst S1))).setCell ⟨w.heap.size + 5, 0, none⟩ (.string (bst [44, 32]))) :=
    kpL_t (kpL_below (by omega) (by omega) hb) (kpL_t (kpL_set (by omega) (by omega) _) (kpL_set (by omega) (by omega) _))
  refine ⟨(keepsFrom_below hb).trans (((KeepsOthers.setCell _ _ _).trans (KeepsOthers.setCell _ _ _)).from _), hkp, ?_, ?_, ?_, ?_, hkb.keep hkp⟩
  · rw [hst]; exact (v4.set _).other (by omega) _
  · rw [hst]; exact (v5.other (by omega) _).set _
  · rw [hst]; exact hl
  · exact ((hbw.trans (hb.mono (by omega))).setCell (p := ⟨w.heap.size + 4, 0, none⟩) (Nat.le_refl _) _).setCell (p := ⟨w.heap.size + 5, 0, none⟩) (by show w.heap.size + 4 ≤ w.heap.size + 5; omega) _
theorem list_cut {w8 W' V : World} {c : Nat} {el : Nat → List UInt8} {pre : List (Nat × Bool)} (hI : ListI w w8 b a N c el pre W') (h8 : Boxed w8 (w.heap.size + 3) 9 (.string ⟨#[]⟩)) (hz : w8.heap.size = w.heap.size + 8) (hb : Below W'.heap.size W' V) (y : Nat × Bool) {S1 : List UInt8} (hst : strE el (pre ++ [y]) = (S1, [44, 32])) (hl : 500 < S1.length) :
    KeepsFrom w8.heap.size W' ((V.setCell ⟨w.heap.size + 4, 0, none⟩ (.string (bst S1))).setCell ⟨w.heap.size + 3, 0, none⟩ (.string (bst S1))) ∧ ListX w w8 el .ret (pre ++ [y]) ((V.setCell ⟨w.heap.size + 4, 0, none⟩ (.string (bst S1))).setCell ⟨w.heap.size + 3, 0, none⟩ (.string (bst S1))) := by
  obtain ⟨h4, h5, hle, hbw, hkb⟩ := hI
  have hs := hbw.size
  have v3 : Boxed V (w.heap.size + 3) 9 _ := (hb.block _ (by omega)).trans ((hbw.block _ (by omega)).trans h8)
  refine ⟨(keepsFrom_below hb).trans (((KeepsOthers.setCell _ _ _).trans (KeepsOthers.setCell _ _ _)).from _), rfl, ⟨pre, y, rfl, hle, by rw [hst]; exact hl⟩, ?_, ?_⟩
  · rw [hst]; exact (v3.other (by omega) _).set _
  · have q : Below (w.heap.size + 3) w8 V := (hbw.mono (show w.heap.size + 3 ≤ w.heap.size + 4 by omega)).trans (hb.mono (show w.heap.size + 3 ≤ W'.heap.size by omega))
    exact (q.setCell (p := ⟨w.heap.size + 4, 0, none⟩) (by show w.heap.size + 3 ≤ w.heap.size + 4; omega) _).setCell (p := ⟨w.heap.size + 3, 0, none⟩) (Nat.le_refl _) _
set_option maxRecDepth 100000 in
set_option maxHeartbeats 2000000 in
theorem list_any (s : Sc w b W h now old R a N ms) (c : Nat) (dep : Int) (hd0 : 0 ≤ dep) (hd1 : dep ≤ 31) (hf : TellC w b a N c f (dep + 1)) (hfl : ∀ n t, (f n t).1.length ≤ 20000000) (n : Nat) (hn : n < 18446744073709551616) (t : Ty) (u : Value) (hu : TyV w t.l u) :
    Calls Tryd.prog 109 #[tlr b a N c, .int .u64 (n : Int), tyA t u, .int .i64 dep] w fun e w' => e = .returned (.string (bst (listF (LN now h W) (fun x => (f x t).1) 300 n [] [91]))) ∧ Below w.heap.size w w' := by
  have HS := Lib.hid s
  have HF := Lib.hid hf
  have HFL := Lib.hid hfl
  have HU := Lib.hid hu
  obtain ⟨ua, uc, rfl, huc, hul⟩ := hu.shape
  obtain ⟨un, hun⟩ : ∃ x, t.l.length = x := ⟨_, rfl⟩
  rw [hun] at HU huc hul ⊢
  clear s hf hfl hu
  obtain ⟨el, hel⟩ : ∃ el : Nat → List UInt8, (fun x => (f x t).1) = el := ⟨_, rfl⟩
  rw [hel]
  have HEL := Lib.hid hel
  clear hel
  unfold tyA
  refine (callsIn_wide (n := 5)).1 ?_
  refine callsIn_of_wp_marks Tryd.func109 rfl trivial ?_ rfl
  simp only [Tryd.ntmps109, List.size_toArray, List.length_cons, List.length_nil, Nat.reduceAdd, Nat.reduceSub, Array.replicate_succ, Array.replicate_zero, List.push_toArray, List.append_toArray, List.nil_append, List.cons_append]
  gi_wp2_with fail
  refine ⟨trivial, ?_⟩
  refine (callsIn_wide.2 (elements_any c n _)).mono ?_
  rintro e w8 ⟨rfl, hw8⟩
  have H8 := Lib.hid (show L8 w w8 b a N c #[.int .i64 t.k, .int .i64 t.n, .string t.s, .slice ua un uc] dep n from hw8 ▸ l8_mk w b a N c _ dep n)
  clear hw8
  have hz8 := H8.out.size
  gi_wp2_with fail
  refine wpIn_range_bnd rfl (by omega) (gf := 118) (lb := #[.pointer (some ⟨w.heap.size + 1 + 1 + 1 + 1 + 1 + 1 + 1, 0, none⟩), .pointer (some ⟨w.heap.size + 1 + 1 + 1 + 1 + 1 + 1, 0, none⟩)]) rfl trivial (enters_of Tryd.func118 (by kernel_rfl) rfl)
    (elem_in HS.out H8.out.base c n hn (w.heap.size + 7) (w.heap.size + 6) 250 H8.out.b7.cell H8.out.b6 (5 - 1) (by omega)) kpL_t (kpL_b H8.out.base.size (by omega)) (fun _ => rfl)
    (ListI w w8 b a N c el) (ListX w w8 el)
    ?hI ?hIx ⟨H8.out.b4, H8.out.b5, by rw [strE_nil]; decide, Below.refl _ _, ⟨H8.out.base, H8.out.b6⟩⟩ (fun pre W' hp => told_few hp.2.2.1)
    (fun y => { tmps := #[.agg #[.pointer (some ⟨b, 0, none⟩), .slice a N c], .int .u64 (n : Int), .agg #[.int .i64 t.k, .int .i64 t.n, .string t.s, .slice ua un uc], .int .i64 dep, .pointer (some ⟨w.heap.size, 0, none⟩), undef, .pointer (some ⟨w.heap.size + 1, 0, none⟩), .pointer (some ⟨w.heap.size + 1 + 1, 0, none⟩), .pointer (some ⟨w.heap.size + 1 + 1 + 1, 0, none⟩), .pointer (some ⟨w.heap.size + 1 + 1 + 1 + 1, 0, none⟩), .pointer (some ⟨w.heap.size + 1 + 1 + 1 + 1 + 1, 0, none⟩), .int .u64 (y.1 : Int), .bool y.2, undef, .agg #[.pointer (some ⟨b, 0, none⟩), .slice a N c], .int .u64 (n : Int), .func (.func 118) #[] #[.pointer (some ⟨w.heap.size + 1 + 1 + 1 + 1 + 1 + 1 + 1, 0, none⟩), .pointer (some ⟨w.heap.size + 1 + 1 + 1 + 1 + 1 + 1, 0, none⟩)], .int .u64 (y.1 : Int), .bool y.2, undef, undef, undef, undef, undef, undef, undef, undef, undef, undef, undef, undef, undef, undef, undef, undef, undef, undef, undef, undef], defers := [] }) ?assignX ?bodyX ?doneX ?stopX
  case hI =>
    unfold ListI
    refine OwnFrom.and (Own.from (boxed_own _ _ (fun (pre : List (Nat × Bool)) => .string (bst (strE el pre).1))) _) (OwnFrom.and (Own.from (boxed_own _ _ (fun (pre : List (Nat × Bool)) => .string (bst (strE el pre).2))) _) (OwnFrom.and (fun s A B row hs _ _ => hs) (OwnFrom.and (ownFrom_below (by omega) (by omega)) ?_)))
    intro s A B row hs hg hr
    exact ⟨hs.base.grown hg (by have := hs.base.size; omega) (fun k e => by have := (hr k e).1; omega), (hg.block _ (Array.getElem?_eq_some_iff.1 hs.box).1 (fun e => by have := (hr _ e.symm).1; omega)).trans hs.box⟩
  case hIx =>
    intro cd
    unfold ListX
    exact OwnFrom.and (fun s A B row hs _ _ => hs) (OwnFrom.and (fun s A B row hs _ _ => hs) (OwnFrom.and (Own.from (boxed_own _ _ (fun (pre : List (Nat × Bool)) => .string (bst (strE el pre).1))) _) (ownFrom_below (by omega) (by omega))))
  case assignX =>
    intro l x W' K' hK'
    simp only [encE]
    gi_wp2
    exact hK'
  case bodyX =>
    rintro l pre ⟨x, ok⟩ W' ⟨hs4, hs5, hlen, hbw, hkb⟩ hS
    dsimp only
    have hW8 : Below w.heap.size w W' := H8.out.base.trans (hbw.mono (by omega))
    have hszW := hbw.size
    have h3 : Boxed W' (w.heap.size + 1 + 1 + 1) 9 (.string ⟨#[]⟩) := (hbw.block _ (by omega)).trans H8.out.b3
    have e0 := (hbw.block w.heap.size (by omega)).trans H8.out.b0
    have t0 : W'.cell? ⟨w.heap.size, 0, none⟩ = some (.pointer (some ⟨b, 0, none⟩)) := (blk_cellT e0 0).trans rfl
    have t1 : W'.cell? ⟨w.heap.size, 1, none⟩ = some (.slice a N c) := (blk_cellT e0 1).trans rfl
    obtain ⟨y0, y1, y2, y3⟩ := res4 ((hbw.block (w.heap.size + 1) (by omega)).trans H8.out.b1)
    have d0 : W'.cell? ⟨w.heap.size + 1 + 1, 0, none⟩ = some (.int .i64 dep) := (blk_cellT ((hbw.block (w.heap.size + 2) (by omega)).trans H8.out.b2) 0).trans rfl
    have H3 := Lib.hid h3
    have HIW := Lib.hid (show ListI w w8 b a N c el pre W' from ⟨hs4, hs5, hlen, hbw, hkb⟩)
    have HW8 := Lib.hid hW8
    have HSS := Lib.hid hS
    have HZ8 := Lib.hid hz8
    have HSW := Lib.hid hszW
    have hsa : (bst (strE el pre).1).size ≤ 500 := by rw [bst_size]; exact hlen
    have hsb : (bst (strE el pre).2).size ≤ 2 := by rw [bst_size]; exact (strE_bt el pre).1
    obtain ⟨SA, hSA⟩ : ∃ x, (strE el pre).1 = x := ⟨_, rfl⟩
    obtain ⟨SB, hSB⟩ : ∃ x, (strE el pre).2 = x := ⟨_, rfl⟩
    rw [hSA] at hsa
    rw [hSB] at hsb
    clear hs4 hs5 hlen hbw hkb h3 e0 hW8
    cases ok with
    | false =>
      clear hS
      have hst := strE_snoc el pre (x, false)
      rw [hSA, hSB, show partE el (x, false) = [63] from rfl] at hst
      have HST := Lib.hid hst
      have hcat : bst SA ++ (bst SB ++ bst [63]) = bst (SA ++ (SB ++ [63])) := by rw [bst_cat, bst_cat]
      have HLG := Lib.hid (long_any (bst SA ++ (bst SB ++ bst [63])))
      rw [hcat, bst_l] at HLG
      have HCT := Lib.hid hcat
      have H4 := HIW.out
      have v3 : Boxed W' (w.heap.size + 1 + 1 + 1) 9 (.string ⟨#[]⟩) := ((Below.refl W'.heap.size W').block _ (by omega)).trans H3.out
      have v4 : Boxed W' (w.heap.size + 1 + 1 + 1 + 1) 9 (.string (bst SA)) := by rw [← hSA]; exact ((Below.refl W'.heap.size W').block _ (by omega)).trans HIW.out.1
      have v5 : Boxed W' (w.heap.size + 1 + 1 + 1 + 1 + 1) 9 (.string (bst SB)) := by rw [← hSB]; exact ((Below.refl W'.heap.size W').block _ (by omega)).trans HIW.out.2.1
      have c3 := v3.cell
      have c4 := v4.cell
      have c5 := v5.cell
      have f3 := v3.frozen
      have f4 := v4.frozen
      have f5 := v5.frozen
      clear hst hcat v3 v4 v5 H4 hszW hz8 hun
      have hlit : (⟨#[63]⟩ : ByteArray) = bst [63] := rfl
      have hs63 : (bst [63]).size ≤ 1 := Nat.le_refl _
      gi_wp2_with fail
      rw [hlit]
      rw [HCT.out]
      cases hlg : longB (SA ++ (SB ++ [63])) with
      | true =>
        rw [hlg] at HLG
        refine ⟨trivial, ?_⟩
        refine (CallsIn.inRound l (callsIn_wide.2 (HLG.out _))).mono ?_
        rintro e w2 ⟨rfl, hw2⟩
        subst w2
        have HFIN := Lib.hid (list_cut HIW.out H8.out.b3 HZ8.out (Below.refl W'.heap.size W') (x, false) HST.out (longB_t hlg))
        clear hlg
        gi_wp2_with fail
        exact HFIN.out
      | false =>
        rw [hlg] at HLG
        refine ⟨trivial, ?_⟩
        refine (CallsIn.inRound l (callsIn_wide.2 (HLG.out _))).mono ?_
        rintro e w2 ⟨rfl, hw2⟩
        subst w2
        have HFIN := Lib.hid (list_next HIW.out HZ8.out (Below.refl W'.heap.size W') (x, false) HST.out (longB_f hlg))
        clear hlg
        gi_wp2_with fail
        exact HFIN.out
    | true =>
      have hxw := tellS_word HS.out hS
      clear hS
      have htl := HF.out W' HW8.out x t (.slice ua un uc) hxw (HU.out.below HW8.out)
      unfold tyA at htl
      have HTL := Lib.hid htl
      have hpl := HFL.out x t
      have hpe : partE el (x, true) = (f x t).1 := by rw [← HEL.out]; rfl
      obtain ⟨r, hr⟩ : ∃ r, f x t = r := ⟨_, rfl⟩
      rw [hr] at HTL hpl hpe
      obtain ⟨P, pb⟩ := r
      simp only at HTL hpl hpe
      have HPE := Lib.hid hpe
      have hsp : (bst P).size ≤ 20000000 := by rw [bst_size]; exact hpl
      have HSW2 := Lib.hid hszW
      clear htl hr hpe hpl hz8 hun hszW
      gi_wp2_with fail
      refine ⟨trivial, ?_⟩
      refine (CallsIn.inRound l (callsIn_wide.2 HTL.out)).mono ?_
      rintro e w1 ⟨rfl, hb1⟩
      have hz8 := HZ8.out
      have hszW := HSW2.out
      have hun := True.intro
      have HB1 := Lib.hid hb1
      have hst := strE_snoc el pre (x, true)
      rw [hSA, hSB, show partE el (x, true) = P from HPE.out] at hst
      have HST := Lib.hid hst
      have hcat : bst SA ++ (bst SB ++ bst P) = bst (SA ++ (SB ++ P)) := by rw [bst_cat, bst_cat]
      have HLG := Lib.hid (long_any (bst SA ++ (bst SB ++ bst P)))
      rw [hcat, bst_l] at HLG
      have HCT := Lib.hid hcat
      have H4 := HIW.out
      have v3 : Boxed w1 (w.heap.size + 1 + 1 + 1) 9 (.string ⟨#[]⟩) := (hb1.block _ (by omega)).trans H3.out
      have v4 : Boxed w1 (w.heap.size + 1 + 1 + 1 + 1) 9 (.string (bst SA)) := by rw [← hSA]; exact (hb1.block _ (by omega)).trans HIW.out.1
      have v5 : Boxed w1 (w.heap.size + 1 + 1 + 1 + 1 + 1) 9 (.string (bst SB)) := by rw [← hSB]; exact (hb1.block _ (by omega)).trans HIW.out.2.1
      have c3 := v3.cell
      have c4 := v4.cell
      have c5 := v5.cell
      have f3 := v3.frozen
      have f4 := v4.frozen
      have f5 := v5.frozen
      clear hst hcat v3 v4 v5 H4 hszW hz8 hun
      clear t0 t1 y0 y1 y2 y3 d0 hb1
      gi_wp2_with fail
      rw [HCT.out]
      cases hlg : longB (SA ++ (SB ++ P)) with
      | true =>
        rw [hlg] at HLG
        refine ⟨trivial, ?_⟩
        refine (CallsIn.inRound l (callsIn_wide.2 (HLG.out _))).mono ?_
        rintro e w2 ⟨rfl, hw2⟩
        subst w2
        have HFIN := Lib.hid (list_cut HIW.out H8.out.b3 HZ8.out HB1.out (x, true) HST.out (longB_t hlg))
        clear hlg
        gi_wp2_with fail
        exact HFIN.out
      | false =>
        rw [hlg] at HLG
        refine ⟨trivial, ?_⟩
        refine (CallsIn.inRound l (callsIn_wide.2 (HLG.out _))).mono ?_
        rintro e w2 ⟨rfl, hw2⟩
        subst w2
        have HFIN := Lib.hid (list_next HIW.out HZ8.out HB1.out (x, true) HST.out (longB_f hlg))
        clear hlg
        gi_wp2_with fail
        exact HFIN.out
  case doneX =>
    rintro D xs W' hD hE ⟨hs4, hs5, hlen, hbw, hkb⟩ hK
    have hend := listF_end hE hlen
    have h3 : Boxed W' (w.heap.size + 1 + 1 + 1) 9 (.string ⟨#[]⟩) := (hbw.block _ (by omega)).trans H8.out.b3
    obtain ⟨SA, hSA⟩ : ∃ x, (strE el xs).1 = x := ⟨_, rfl⟩
    rw [hSA] at hs4 hlen hend
    have hsa : (bst SA).size ≤ 500 := by rw [bst_size]; exact hlen
    have c4 : W'.cell? ⟨w.heap.size + 1 + 1 + 1 + 1, 0, none⟩ = some (.string (bst SA)) := hs4.cell
    have c3 := h3.cell
    have f3 := h3.frozen
    have HEND := Lib.hid hend
    have hcat : bst SA ++ (⟨#[93]⟩ : ByteArray) = bst (SA ++ [93]) := bst_cat SA [93]
    have HCT := Lib.hid hcat
    have HKD := Lib.hid (show (W'.setCell ⟨w.heap.size + 1 + 1 + 1, 0, none⟩ (.string (bst SA ++ ⟨#[93]⟩))).heap[D]? = some (.deferred (some [])) from (KeepsOthers.setCell W' ⟨w.heap.size + 1 + 1 + 1, 0, none⟩ _).same D _ hK rfl)
    have HBX := Lib.hid (h3.set (.string (bst SA ++ ⟨#[93]⟩)))
    have hq : Below w.heap.size w (W'.setCell ⟨w.heap.size + 1 + 1 + 1, 0, none⟩ (.string (bst SA ++ ⟨#[93]⟩))) := (H8.out.base.trans (hbw.mono (by omega))).setCell (p := ⟨w.heap.size + 1 + 1 + 1, 0, none⟩) (by show w.heap.size ≤ w.heap.size + 1 + 1 + 1; omega) _
    have HQ := Lib.hid hq
    have HD := Lib.hid (show w.heap.size ≤ D by omega)
    clear hE hs4 hs5 hlen hbw hkb hK hend h3 hSA hcat hq hD hz8 hun
    gi_wp2_with fail
    refine ⟨by simp, .inl ⟨_, _, rfl, run_takeDeferred HKD.out, ?_⟩⟩
    have hc9 := cell_kept HBX.out.cell (grownBy_putObj' _ D (.deferred none)) (fun r e => by cases e; exact ⟨_, HKD.out, rfl⟩)
    refine ⟨.string (bst (listF (LN now h W) el 300 n [] [91])), ?_, rfl, HQ.out.trans (belowK_b (w := w) (Nat.le_refl _) _ D _ _ HD.out HKD.out rfl rfl)⟩
    rw [HEND.out, ← HCT.out]
    simp [results, Tryd.f109, go_sem, hc9]
  case stopX =>
    rintro D cd pre W' hD hS ⟨rfl, ⟨p, x, rfl, h1, h2⟩, h3, hbw⟩ hK
    have hend := listF_cut hS h1 h2
    have hc9 := cell_kept (Boxed.cell h3) (grownBy_putObj' _ D (.deferred none)) (fun r e => by cases e; exact ⟨_, hK, rfl⟩)
    have HC9 := Lib.hid hc9
    have HKD := Lib.hid hK
    have HEND := Lib.hid hend
    have HQ := Lib.hid (show Below w.heap.size w W' from H8.out.base.trans (hbw.mono (by omega)))
    have HD := Lib.hid (show w.heap.size ≤ D by omega)
    clear hS h1 h2 h3 hbw hK hend hc9 hD hz8 hun
    gi_wp2_with fail
    refine ⟨by simp, .inl ⟨_, _, rfl, run_takeDeferred HKD.out, ?_⟩⟩
    refine ⟨.string (bst (listF (LN now h W) el 300 n [] [91])), ?_, rfl, HQ.out.trans (belowK_b (w := w) (Nat.le_refl _) _ D _ _ HD.out HKD.out rfl rfl)⟩
    rw [HEND.out]
    have hc9 : (W'.putObj D (.deferred none)).cell? ⟨w.heap.size + 1 + 1 + 1, 0, none⟩ = some _ := HC9.out
    simp [results, Tryd.f109, go_sem, hc9]
end
end Go.Proofs.YtlakfnlkiebpdaaDoor
namespace Go.Proofs.YtlakfnlkiebpdaaDoor
open Go Go.RowKit
theorem getX_len {W h : Nat} {now old : List Ob} (z : WF W h now old) (n : Nat) : (getX now h W n).1.length ≤ 131064 := by
  unfold getX
  cases q : idxAt now h W (toP (n : Int)) with
  | none => simp
  | some j =>
    simp only
    unfold getOb
    by_cases hk : (obN now j).k ≠ 4
    · rw [if_pos hk]; simp
    · rw [if_neg hk]
      obtain ⟨x, ws, hws, hl⟩ := ok_words z (List.mem_of_getElem? (idx_ob q)) (Classical.not_not.1 hk)
      rw [hws, List.tail_cons, List.headD_cons]
      split
      · rename_i hu
        rw [NumL.bytesOf_length]
        have := hu.1
        unfold NumL.nWords at this
        omega
      · simp
theorem toI_rng (n : Int) : -9223372036854775808 ≤ toI n ∧ toI n ≤ 9223372036854775807 := by unfold toI; split <;> (first | (unfold W; omega) | omega)
section
variable {w : World} {b W h N : Nat} {now old : List Ob} {R : Nat → Value} {a : Option Addr} {ms : List Mkr} {f : Nat → Ty → List UInt8 × Bool}
/-- constructor, at every world behind w -/
def ConsC (w : World) (b : Nat) (a : Option Addr) (N c : Nat) (L : Nat → Option (Nat × List Nat)) (ms : List Mkr) (f : Nat → Ty → List UInt8 × Bool) (dep : Int) : Prop :=
  ∀ Y, Below w.heap.size w Y → ∀ (n : Nat) (t : Ty) (u : Value), n < 18446744073709551616 → TyV Y t.l u → Calls Tryd.prog 110 #[tlr b a N c, .int .u64 (n : Int), tyA t u, .int .i64 dep] Y
    fun e w' => e = .returned (.tuple #[.string (bst (consF L ms f n t).1), .bool (consF L ms f n t).2]) ∧ Below Y.heap.size Y w'
/-- what tellOf answers -/
def OfR (w : World) (r : List UInt8 × Bool) (e : Ending) (w' : World) : Prop := e = .returned (.tuple #[.string (bst r.1), .bool r.2]) ∧ Below w.heap.size w w'
theorem isK_some {n k : Nat} (h0 : isK (LN now h W) n k = true) : ∃ i, idxAt now h W (toP (n : Int)) = some i ∧ (obN now i).k = k := by
  unfold isK at h0
  cases q : idxAt now h W (toP (n : Int)) with
  | none => rw [LN_none q] at h0; cases h0
  | some i => rw [LN_some q] at h0; exact ⟨i, rfl, by simpa using h0⟩
set_option maxRecDepth 100000 in
set_option maxHeartbeats 4000000 in
theorem of_int (s : Sc w b W h now old R a N ms) (c : Nat) (dep : Int) (n : Nat) (hn : n < 18446744073709551616) (t : Ty) (u : Value) (h1 : t.n = 1) (hi : isIntB (n : Int) = true) :
    Calls Tryd.prog 95 #[tlr b a N c, .int .u64 (n : Int), tyA t u, .int .i64 dep] w (OfR w (Lib.itoa (toI (n : Int)), false)) := by
  have hb2 := below_two w (tlrO b a N c) (.cells #[.int .i64 t.k, .int .i64 t.n, .string t.s, u] 61)
  have HB2 := Lib.hid hb2
  have HII := Lib.hid (isintN n hn)
  rw [hi] at HII
  have HTI := Lib.hid (tointN n hn)
  have hir := toI_rng (n : Int)
  have HTX := Lib.hid (numtext_any (toI (n : Int)) hir.1 hir.2 _ (s.below hb2).tab)
  obtain ⟨tk, tn, tz, tl⟩ := t
  simp only [Ty.n] at h1
  subst h1
  unfold tyA
  simp only [Ty.k, Ty.n, Ty.s] at HB2 HTX ⊢
  clear s hb2 hi
  obtain ⟨A, hA⟩ : ∃ A, toI (n : Int) = A := ⟨_, rfl⟩
  rw [hA] at HTI HTX hir ⊢
  clear hA
  go_enter Tryd.func95, Tryd.ntmps95
  go_wp2_with fail
  refine (HII.out _).mono ?_
  rintro e w1 ⟨rfl, hw1⟩
  subst w1
  go_wp2_with fail
  refine (HTI.out _).mono ?_
  rintro e w1 ⟨rfl, hw1⟩
  subst w1
  go_wp2_with fail
  refine (HTX.out).mono ?_
  rintro e w1 ⟨rfl, hb1⟩
  have HB1 := Lib.hid (HB2.out.trans (hb1.mono HB2.out.size))
  clear hb1
  go_wp2_with fail
  go_ret2
  exact ⟨rfl, HB1.out⟩
set_option maxRecDepth 100000 in
set_option maxHeartbeats 4000000 in
theorem of_unit (c : Nat) (dep : Int) (t : Ty) (u : Value) (h1 : t.n = 3) :
    Calls Tryd.prog 95 #[tlr b a N c, .int .u64 1, tyA t u, .int .i64 dep] w (OfR w ([40, 41], false)) := by
  have hb2 := below_two w (tlrO b a N c) (.cells #[.int .i64 t.k, .int .i64 t.n, .string t.s, u] 61)
  have HB2 := Lib.hid hb2
  obtain ⟨tk, tn, tz, tl⟩ := t
  have HI := Lib.hid (fun W1 : World => show Calls Tryd.prog 83 #[.int .i64 0] W1 (fun e w' => e = .returned (.int .u64 1) ∧ w' = W1) from (int_any 0 W1).mono fun e w' ⟨h1, h2⟩ => ⟨by rw [h1]; rfl, h2.symm⟩)
  simp only [Ty.n] at h1
  subst h1
  unfold tyA
  simp only [Ty.k, Ty.n, Ty.s] at HB2 ⊢
  clear hb2
  go_enter Tryd.func95, Tryd.ntmps95
  go_wp2_with fail
  refine (HI.out _).mono ?_
  rintro e w1 ⟨rfl, hw1⟩
  subst w1
  go_wp2_with fail
  go_ret2
  exact ⟨rfl, HB2.out⟩
set_option maxRecDepth 100000 in
set_option maxHeartbeats 4000000 in
theorem of_text (s : Sc w b W h now old R a N ms) (c : Nat) (dep : Int) (n : Nat) (hn : n < 18446744073709551616) (t : Ty) (u : Value) (h1 : t.n = 2) :
    Calls Tryd.prog 95 #[tlr b a N c, .int .u64 (n : Int), tyA t u, .int .i64 dep] w (OfR w (match TN now h W n with | some s => (quoteL s, false) | none => ([63], false))) := by
  have hb2 := below_two w (tlrO b a N c) (.cells #[.int .i64 t.k, .int .i64 t.n, .string t.s, u] 61)
  have HB2 := Lib.hid hb2
  have HG := Lib.hid (gettext_any (s.below hb2).m s.z n hn)
  obtain ⟨tk, tn, tz, tl⟩ := t
  simp only [Ty.n] at h1
  subst h1
  unfold tyA
  simp only [Ty.k, Ty.n, Ty.s] at HB2 HG ⊢
  unfold TN
  have hsz := getX_len (h := h) (W := W) s.z n
  obtain ⟨X, hX⟩ : ∃ X, getX now h W n = X := ⟨_, rfl⟩
  rw [hX] at HG hsz ⊢
  obtain ⟨T, E⟩ := X
  simp only at HG hsz ⊢
  clear s hb2 hX
  by_cases hE : E = 0
  · subst hE
    rw [if_pos rfl]
    simp only
    have HQ := Lib.hid (fun W1 => quote_any ⟨T.toArray⟩ (by show T.toArray.size ≤ _; rw [List.size_toArray]; omega) W1)
    go_enter Tryd.func95, Tryd.ntmps95
    go_wp2_with fail
    refine (HG.out).mono ?_
    rintro e w1 ⟨rfl, hb1⟩
    have HB1 := Lib.hid (HB2.out.trans (hb1.mono HB2.out.size))
    clear hb1
    go_wp2_with fail
    refine (HQ.out _).mono ?_
    rintro e w2 ⟨rfl, hb2⟩
    have HB3 := Lib.hid (HB1.out.trans (hb2.mono HB1.out.size))
    clear hb2
    go_wp2_with fail
    go_ret2
    exact ⟨rfl, HB3.out⟩
  · rw [if_neg hE]
    have hE2 : ((E : Int) == 0) = false := by rw [beq_eq_false_iff_ne]; omega
    go_enter Tryd.func95, Tryd.ntmps95
    go_wp2_with fail
    refine (HG.out).mono ?_
    rintro e w1 ⟨rfl, hb1⟩
    have HB1 := Lib.hid (HB2.out.trans (hb1.mono HB2.out.size))
    clear hb1
    go_wp2_with fail
    go_ret2
    exact ⟨rfl, HB1.out⟩
set_option maxRecDepth 100000 in
set_option maxHeartbeats 4000000 in
theorem of_fn (s : Sc w b W h now old R a N ms) (c : Nat) (dep : Int) (n : Nat) (hn : n < 18446744073709551616) (t : Ty) (u : Value) (h1 : t.n = 5) :
    Calls Tryd.prog 95 #[tlr b a N c, .int .u64 (n : Int), tyA t u, .int .i64 dep] w (OfR w (if isK (LN now h W) n 3 = true then ([102, 110], false) else ([63], false))) := by
  have hb2 := below_two w (tlrO b a N c) (.cells #[.int .i64 t.k, .int .i64 t.n, .string t.s, u] 61)
  have HB2 := Lib.hid hb2
  have HK := Lib.hid (is_any (s.below hb2) c n hn 3)
  obtain ⟨tk, tn, tz, tl⟩ := t
  simp only [Ty.n] at h1
  subst h1
  unfold tyA
  simp only [Ty.k, Ty.n, Ty.s] at HB2 HK ⊢
  obtain ⟨K, hK⟩ : ∃ K, isK (LN now h W) n 3 = K := ⟨_, rfl⟩
  rw [hK] at HK ⊢
  clear s hb2 hK
  cases K with
  | true =>
    rw [if_pos rfl]
    go_enter Tryd.func95, Tryd.ntmps95
    go_wp2_with fail
    refine (HK.out).mono ?_
    rintro e w1 ⟨rfl, hb1⟩
    have HB1 := Lib.hid (HB2.out.trans (hb1.mono HB2.out.size))
    clear hb1
    go_wp2_with fail
    go_ret2
    exact ⟨rfl, HB1.out⟩
  | false =>
    rw [if_neg (by decide)]
    go_enter Tryd.func95, Tryd.ntmps95
    go_wp2_with fail
    refine (HK.out).mono ?_
    rintro e w1 ⟨rfl, hb1⟩
    have HB1 := Lib.hid (HB2.out.trans (hb1.mono HB2.out.size))
    have q1 : w1.cell? ⟨w.heap.size + 1, 1, none⟩ = some (.int .i64 5) := below_cell hb1 ((blk_cellT (new_at (w.alloc (tlrO b a N c)) (.cells #[.int .i64 tk, .int .i64 5, .string tz, u] 61) (w.heap.size + 1) (by simp)) 1).trans rfl)
    clear hb1
    go_wp2_with fail
    go_ret2
    exact ⟨rfl, HB1.out⟩
set_option maxRecDepth 100000 in
set_option maxHeartbeats 4000000 in
theorem of_noint (c : Nat) (dep : Int) (n : Nat) (hn : n < 18446744073709551616) (t : Ty) (u : Value) (h1 : t.n = 1) (hi : isIntB (n : Int) = false) :
    Calls Tryd.prog 95 #[tlr b a N c, .int .u64 (n : Int), tyA t u, .int .i64 dep] w (OfR w ([63], false)) := by
  have hb2 := below_two w (tlrO b a N c) (.cells #[.int .i64 t.k, .int .i64 t.n, .string t.s, u] 61)
  have HB2 := Lib.hid hb2
  have HII := Lib.hid (isintN n hn)
  rw [hi] at HII
  obtain ⟨tk, tn, tz, tl⟩ := t
  simp only [Ty.n] at h1
  subst h1
  unfold tyA
  simp only [Ty.k, Ty.n, Ty.s] at HB2 ⊢
  clear hb2 hi
  go_enter Tryd.func95, Tryd.ntmps95
  go_wp2_with fail
  refine (HII.out _).mono ?_
  rintro e w1 ⟨rfl, hw1⟩
  subst w1
  go_wp2_with fail
  go_ret2
  exact ⟨rfl, HB2.out⟩
set_option maxRecDepth 100000 in
set_option maxHeartbeats 4000000 in
theorem of_nounit (c : Nat) (dep : Int) (n : Nat) (t : Ty) (u : Value) (h1 : t.n = 3) (hi : n ≠ 1) :
    Calls Tryd.prog 95 #[tlr b a N c, .int .u64 (n : Int), tyA t u, .int .i64 dep] w (OfR w ([63], false)) := by
  have hb2 := below_two w (tlrO b a N c) (.cells #[.int .i64 t.k, .int .i64 t.n, .string t.s, u] 61)
  have HB2 := Lib.hid hb2
  obtain ⟨tk, tn, tz, tl⟩ := t
  have HI := Lib.hid (fun W1 : World => show Calls Tryd.prog 83 #[.int .i64 0] W1 (fun e w' => e = .returned (.int .u64 1) ∧ w' = W1) from (int_any 0 W1).mono fun e w' ⟨h1, h2⟩ => ⟨by rw [h1]; rfl, h2.symm⟩)
  simp only [Ty.n] at h1
  subst h1
  unfold tyA
  simp only [Ty.k, Ty.n, Ty.s] at HB2 ⊢
  have hne : ((n : Int) == 1) = false := by rw [beq_eq_false_iff_ne]; omega
  clear hb2 hi
  go_enter Tryd.func95, Tryd.ntmps95
  go_wp2_with fail
  refine (HI.out _).mono ?_
  rintro e w1 ⟨rfl, hw1⟩
  subst w1
  go_wp2_with fail
  go_ret2
  exact ⟨rfl, HB2.out⟩
set_option maxRecDepth 100000 in
set_option maxHeartbeats 4000000 in
theorem of_tuple (s : Sc w b W h now old R a N ms) (c : Nat) (dep : Int) (n : Nat) (hn : n < 18446744073709551616) (t : Ty) (u : Value) (hd0 : 0 ≤ dep) (hd1 : dep ≤ 31) (hf : TellC w b a N c f (dep + 1)) (hfl : ∀ n t, (f n t).1.length ≤ 20000000) (hu : TyV w t.l u) (h1 : t.n = 6) (h2 : 2 ≤ t.l.length) :
    Calls Tryd.prog 95 #[tlr b a N c, .int .u64 (n : Int), tyA t u, .int .i64 dep] w (OfR w (tupV (LN now h W) f n t.l, false)) := by
  obtain ⟨ua, uc, rfl, huc, hul⟩ := hu.shape
  obtain ⟨un, hun⟩ : ∃ x, t.l.length = x := ⟨_, rfl⟩
  have hb2 := below_two w (tlrO b a N c) (.cells #[.int .i64 t.k, .int .i64 t.n, .string t.s, .slice ua t.l.length uc] 61)
  have HB2 := Lib.hid hb2
  have HT := Lib.hid (tuple_any (s.below hb2) c dep hd0 hd1 (hf.at hb2) hfl n hn t.l ua uc (hu.below hb2))
  obtain ⟨tk, tn, tz, tl⟩ := t
  simp only [Ty.n, Ty.l] at h1 h2 hun HT
  subst h1
  unfold tyA
  simp only [Ty.k, Ty.n, Ty.s, Ty.l] at HB2 HT ⊢
  rw [hun] at HB2 HT h2 ⊢
  have hge : decide ((2 : Int) ≤ (un : Int)) = true := decide_eq_true (by omega)
  clear s hb2 hun hf hfl hu h2
  go_enter Tryd.func95, Tryd.ntmps95
  go_wp2_with fail
  refine (HT.out).mono ?_
  rintro e w1 ⟨rfl, hb1⟩
  have HB1 := Lib.hid (HB2.out.trans (hb1.mono HB2.out.size))
  clear hb1
  go_wp2_with fail
  go_ret2
  exact ⟨rfl, HB1.out⟩
theorem cons_cases (tn : Int) (un : Nat) (h0 : ¬(tn = 1 ∨ tn = 3 ∨ tn = 5)) (h2 : tn ≠ 2) (h6 : ¬(tn = 6 ∧ 2 ≤ un)) (h7 : ¬(tn = 7 ∧ un = 1)) (h9 : ¬(tn = 9 ∧ un = 1)) :
    (tn = 6 ∧ decide ((2 : Int) ≤ (un : Int)) = false) ∨ (tn = 7 ∧ ((un : Int) == 1) = false) ∨ (tn = 9 ∧ ((un : Int) == 1) = false) ∨ ((tn == 1) = false ∧ (tn == 2) = false ∧ (tn == 3) = false ∧ (tn == 5) = false ∧ (tn == 6) = false ∧ (tn == 7) = false ∧ (tn == 9) = false) := by
  by_cases e6 : tn = 6
  · exact .inl ⟨e6, decide_eq_false (by omega)⟩
  · by_cases e7 : tn = 7
    · exact .inr (.inl ⟨e7, beq_eq_false_iff_ne.2 (by omega)⟩)
    · by_cases e9 : tn = 9
      · exact .inr (.inr (.inl ⟨e9, beq_eq_false_iff_ne.2 (by omega)⟩))
      · exact .inr (.inr (.inr ⟨beq_eq_false_iff_ne.2 (by omega), beq_eq_false_iff_ne.2 (by omega), beq_eq_false_iff_ne.2 (by omega), beq_eq_false_iff_ne.2 (by omega), beq_eq_false_iff_ne.2 (by omega), beq_eq_false_iff_ne.2 (by omega), beq_eq_false_iff_ne.2 (by omega)⟩))
set_option maxRecDepth 100000 in
set_option maxHeartbeats 4000000 in
theorem of_cons (c : Nat) (dep : Int) (n : Nat) (hn : n < 18446744073709551616) (t : Ty) (u : Value) (hc : ConsC w b a N c (LN now h W) ms f dep) (hu : TyV w t.l u) (h0 : ¬(t.n = 1 ∨ t.n = 3 ∨ t.n = 5)) (h2 : t.n ≠ 2) (h6 : ¬(t.n = 6 ∧ 2 ≤ t.l.length)) (h7 : ¬(t.n = 7 ∧ t.l.length = 1)) (h9 : ¬(t.n = 9 ∧ t.l.length = 1)) :
    Calls Tryd.prog 95 #[tlr b a N c, .int .u64 (n : Int), tyA t u, .int .i64 dep] w (OfR w (consF (LN now h W) ms f n t)) := by
  obtain ⟨ua, uc, rfl, huc, hul⟩ := hu.shape
  obtain ⟨un, hun⟩ : ∃ x, t.l.length = x := ⟨_, rfl⟩
  have hb2 := below_two w (tlrO b a N c) (.cells #[.int .i64 t.k, .int .i64 t.n, .string t.s, .slice ua t.l.length uc] 61)
  have HB2 := Lib.hid hb2
  have HC := Lib.hid (hc _ hb2 n t _ hn (hu.below hb2))
  obtain ⟨tk, tn, tz, tl⟩ := t
  simp only [Ty.n, Ty.l] at h0 h2 h6 h7 h9 hun
  obtain ⟨Q, hQ⟩ : ∃ Q, consF (LN now h W) ms f n (.mk tk tn tz tl) = Q := ⟨_, rfl⟩
  rw [hQ] at HC ⊢
  unfold tyA at HC ⊢
  simp only [Ty.k, Ty.n, Ty.s, Ty.l] at HB2 HC ⊢
  rw [hun] at HB2 HC h6 h7 h9 ⊢
  have hcs := cons_cases tn un h0 h2 h6 h7 h9
  clear hb2 hun hu hc hQ h0 h2 h6 h7 h9
  rcases hcs with ⟨rfl, q⟩ | ⟨rfl, q⟩ | ⟨rfl, q⟩ | ⟨q1, q2, q3, q5, q6, q7, q9⟩
  all_goals
    go_enter Tryd.func95, Tryd.ntmps95
    go_wp2_with fail
    refine (HC.out).mono ?_
    rintro e w1 ⟨rfl, hb1⟩
    have HB1 := Lib.hid (HB2.out.trans (hb1.mono HB2.out.size))
    clear hb1
    go_wp2_with fail
    go_ret2
    exact ⟨rfl, HB1.out⟩
end
end Go.Proofs.YtlakfnlkiebpdaaDoor
