/- The walk of the statement IsaTexts: it returns true. Conditions: the library's tables and bound and the table of operations read as they are laid. -/
import Derived.Test.YtfpgalckmfdcmaaDoorIsaKnown
import Derived.Test.YtfpgalckmfdcmaaDoorIsaParse
import Derived.Test.YtfpgalckmfdcmaaDoorIsaRefP
import Derived.Deep.RegionHeld3
namespace Go.Proofs.YtfpgalckmfdcmaaDoor
open Go Go.RowKit
def insO (o a b c n : Int) : Obj := .cells #[.int .i64 o, .int .i64 a, .int .i64 b, .int .i64 c, .int .i64 n] 23 (0, 0)
/-- what stays over the calls: three instructions in memory -/
structure KT (w : World) (I J K : Nat) (o a b c n p q r s t : Int) (W : World) : Prop where
  kn : Kn w W
  i : W.heap[I]? = some (insO o a b c n)
  j : W.heap[J]? = some (insO p q r s t)
  k : W.heap[K]? = some (insO p q r s t)
theorem KT.below {w W W' : World} {I J K : Nat} {o a b c n p q r s t : Int} (h : KT w I J K o a b c n p q r s t W) (hb : Below W.heap.size W W') : KT w I J K o a b c n p q r s t W' :=
  ⟨h.kn.below hb, (hb.block _ (blk_lt h.i)).trans h.i, (hb.block _ (blk_lt h.j)).trans h.j, (hb.block _ (blk_lt h.k)).trans h.k⟩
theorem kt_s {w W : World} {I J K : Nat} {o a b c n p q r s t : Int} (h : KT w I J K o a b c n p q r s t W) : W.cell? ⟨I, 0, none⟩ = some (.int .i64 o) ∧ W.cell? ⟨I, 1, none⟩ = some (.int .i64 a) ∧ W.cell? ⟨I, 2, none⟩ = some (.int .i64 b) ∧ W.cell? ⟨I, 3, none⟩ = some (.int .i64 c) ∧ W.cell? ⟨I, 4, none⟩ = some (.int .i64 n) ∧ W.cell? ⟨J, 0, none⟩ = some (.int .i64 p) ∧ W.cell? ⟨J, 1, none⟩ = some (.int .i64 q) ∧ W.cell? ⟨J, 2, none⟩ = some (.int .i64 r) ∧ W.cell? ⟨J, 3, none⟩ = some (.int .i64 s) ∧ W.cell? ⟨J, 4, none⟩ = some (.int .i64 t) ∧ W.cell? ⟨K, 0, none⟩ = some (.int .i64 p) ∧ W.cell? ⟨K, 1, none⟩ = some (.int .i64 q) ∧ W.cell? ⟨K, 2, none⟩ = some (.int .i64 r) ∧ W.cell? ⟨K, 3, none⟩ = some (.int .i64 s) ∧ W.cell? ⟨K, 4, none⟩ = some (.int .i64 t) ∧ KT w I J K o a b c n p q r s t W :=
  ⟨blk_cell5 h.i 0, blk_cell5 h.i 1, blk_cell5 h.i 2, blk_cell5 h.i 3, blk_cell5 h.i 4, blk_cell5 h.j 0, blk_cell5 h.j 1, blk_cell5 h.j 2, blk_cell5 h.j 3, blk_cell5 h.j 4, blk_cell5 h.k 0, blk_cell5 h.k 1, blk_cell5 h.k 2, blk_cell5 h.k 3, blk_cell5 h.k 4, h⟩
theorem kt_of {w W : World} {I J K : Nat} {o a b c n p q r s t : Int} {p0 p1 p2 p3 p4 p5 p6 p7 p8 p9 p10 p11 p12 p13 p14 : Prop} (h : p0 ∧ p1 ∧ p2 ∧ p3 ∧ p4 ∧ p5 ∧ p6 ∧ p7 ∧ p8 ∧ p9 ∧ p10 ∧ p11 ∧ p12 ∧ p13 ∧ p14 ∧ KT w I J K o a b c n p q r s t W) : KT w I J K o a b c n p q r s t W := h.2.2.2.2.2.2.2.2.2.2.2.2.2.2.2
theorem istext_to (o a b c n : Int) (T : List UInt8) (hT : textOf o a b c n = T) (w : World) (ho : Ops w) (ht : Tab w) : Calls Tryd.prog 11 #[.agg #[.int .i64 o, .int .i64 a, .int .i64 b, .int .i64 c, .int .i64 n]] w fun e w' => e = .returned (.string ⟨T.toArray⟩) ∧ Below w.heap.size w w' := by
  subst hT; exact istext_any o a b c n w ho ht
theorem reftx_to (o a b c n : Int) (T : List UInt8) (hT : textOf o a b c n = T) (w : World) : Calls Tryd.prog 12 #[.agg #[.int .i64 o, .int .i64 a, .int .i64 b, .int .i64 c, .int .i64 n]] w fun e w' => e = .returned (.string ⟨T.toArray⟩) ∧ Below w.heap.size w w' := by
  subst hT; exact reftxt_any o a b c n w
set_option maxRecDepth 100000 in
set_option maxHeartbeats 4000000 in
theorem isaTexts_walk (o a b c n : Int) (s : ByteArray) (m : Int) (w : World) (ho : Ops w) (ht : Tab w) (hm : w.cell? ⟨1, 0, none⟩ = some (.int .i64 m)) :
    Calls Tryd.prog 3 #[.agg #[.int .i64 o, .int .i64 a, .int .i64 b, .int .i64 c, .int .i64 n], .string s] w fun e w' => e = .returned (.bool true) ∧ Below w.heap.size w w' := by
  have hba := (Below.refl w.heap.size w).alloc (Nat.le_refl _) (.cells #[.int .i64 o, .int .i64 a, .int .i64 b, .int .i64 c, .int .i64 n] 23)
  have HK0 := Lib.hid ((Kn.mk (Below.refl w.heap.size w) ho ht).below hba)
  have HI := Lib.hid (heap_alloc_new w (.cells #[.int .i64 o, .int .i64 a, .int .i64 b, .int .i64 c, .int .i64 n] 23))
  have HM := Lib.hid ((hba.cell (p := ⟨1, 0, none⟩) (World.block_lt_of_cell? w _ hm)).trans hm)
  clear ho ht hm hba
  go_enter Tryd.func3, Tryd.ntmps3
  by_cases hl : (4096 : Int) < s.size
  · go_wp2_with fail
    refine (known_any _ HK0.out.ops HK0.out.tab).mono ?_
    rintro e w1 ⟨rfl, hb⟩
    have HK1 := Lib.hid (HK0.out.below hb)
    clear hb
    go_wp2_with fail
    go_ret
    exact ⟨rfl, HK1.out.base⟩
  · have hs : s.size ≤ 4096 := by omega
    go_wp2_with fail
    refine (ispar_any s (by omega) m _ HK0.out.ops HK0.out.tab HM.out).mono ?_
    rintro e w1 ⟨⟨p, q, r, u, v, er, rfl, hp1⟩, hb1⟩
    have HK1 := Lib.hid (HK0.out.below hb1)
    have HI1 := Lib.hid ((hb1.block _ (blk_lt HI.out)).trans HI.out)
    have hw1 : w.heap.size < w1.heap.size := blk_lt HI1.out
    have HP1 := Lib.hid hp1
    unfold InsV
    clear hp1 hb1
    go_wp2_with fail
    obtain ⟨w2, hw2⟩ : ∃ w2, w1.alloc (.cells #[.int .i64 p, .int .i64 q, .int .i64 r, .int .i64 u, .int .i64 v] 23) = w2 := ⟨_, rfl⟩
    have hba2 := (Below.refl w1.heap.size w1).alloc (Nat.le_refl _) (.cells #[.int .i64 p, .int .i64 q, .int .i64 r, .int .i64 u, .int .i64 v] 23)
    have hj2 := heap_alloc_new w1 (.cells #[.int .i64 p, .int .i64 q, .int .i64 r, .int .i64 u, .int .i64 v] 23)
    rw [hw2] at hba2 hj2 ⊢
    have HK2 := Lib.hid (HK1.out.below hba2)
    have HI2 := Lib.hid ((hba2.block _ (blk_lt HI1.out)).trans HI1.out)
    have HJ2 := Lib.hid hj2
    have hw2l : w1.heap.size < w2.heap.size := blk_lt HJ2.out
    clear hba2 hj2 hw2
    refine (refpar_any s (by omega) _).mono ?_
    rintro e w3 ⟨⟨p', q', r', u', v', er', rfl, hp2⟩, hb2⟩
    obtain ⟨rfl, rfl, rfl, rfl, rfl, rfl⟩ := HP1.out.unique hp2
    have HK3 := Lib.hid (HK2.out.below hb2)
    have HI3 := Lib.hid ((hb2.block _ (blk_lt HI2.out)).trans HI2.out)
    have HJ3 := Lib.hid ((hb2.block _ (blk_lt HJ2.out)).trans HJ2.out)
    have hw3 : w2.heap.size ≤ w3.heap.size := hb2.size
    unfold InsV
    clear hp2 hb2
    go_wp2_with fail
    obtain ⟨w4, hw4⟩ : ∃ w4, w3.alloc (.cells #[.int .i64 p, .int .i64 q, .int .i64 r, .int .i64 u, .int .i64 v] 23) = w4 := ⟨_, rfl⟩
    have hba4 := (Below.refl w3.heap.size w3).alloc (Nat.le_refl _) (.cells #[.int .i64 p, .int .i64 q, .int .i64 r, .int .i64 u, .int .i64 v] 23)
    have hj4 := heap_alloc_new w3 (.cells #[.int .i64 p, .int .i64 q, .int .i64 r, .int .i64 u, .int .i64 v] 23)
    rw [hw4] at hba4 hj4 ⊢
    have hkt : KT w w.heap.size w1.heap.size w3.heap.size o a b c n p q r u v w4 := ⟨HK3.out.below hba4, (hba4.block _ (blk_lt HI3.out)).trans HI3.out, (hba4.block _ (blk_lt HJ3.out)).trans HJ3.out, hj4⟩
    clear hba4 hj4 hw4
    obtain ⟨T, hT⟩ : ∃ T, textOf o a b c n = T := ⟨_, rfl⟩
    have HT := Lib.hid hT
    have ttt : (T == T) = true := by simp
    have ep : (p == p) = true := by simp
    have eq : (q == q) = true := by simp
    have er1 : (r == r) = true := by simp
    have eu : (u == u) = true := by simp
    have ev : (v == v) = true := by simp
    have ee : (er == er) = true := by simp
    obtain ⟨I, hI⟩ : ∃ I, w.heap.size = I := ⟨_, rfl⟩
    obtain ⟨J, hJ⟩ : ∃ J, w1.heap.size = J := ⟨_, rfl⟩
    obtain ⟨K, hK⟩ : ∃ K, w3.heap.size = K := ⟨_, rfl⟩
    rw [hI, hJ, hK] at hkt
    rw [hI, hJ, hK]
    clear hT hI hJ hK
    have hkd := hkt.below (Below.refl _ _).drew
    go_region_held3 (fun W => W.cell? ⟨I, 0, none⟩ = some (.int .i64 o) ∧ W.cell? ⟨I, 1, none⟩ = some (.int .i64 a) ∧ W.cell? ⟨I, 2, none⟩ = some (.int .i64 b) ∧ W.cell? ⟨I, 3, none⟩ = some (.int .i64 c) ∧ W.cell? ⟨I, 4, none⟩ = some (.int .i64 n) ∧ W.cell? ⟨J, 0, none⟩ = some (.int .i64 p) ∧ W.cell? ⟨J, 1, none⟩ = some (.int .i64 q) ∧ W.cell? ⟨J, 2, none⟩ = some (.int .i64 r) ∧ W.cell? ⟨J, 3, none⟩ = some (.int .i64 u) ∧ W.cell? ⟨J, 4, none⟩ = some (.int .i64 v) ∧ W.cell? ⟨K, 0, none⟩ = some (.int .i64 p) ∧ W.cell? ⟨K, 1, none⟩ = some (.int .i64 q) ∧ W.cell? ⟨K, 2, none⟩ = some (.int .i64 r) ∧ W.cell? ⟨K, 3, none⟩ = some (.int .i64 u) ∧ W.cell? ⟨K, 4, none⟩ = some (.int .i64 v) ∧ KT w I J K o a b c n p q r u v W)
      (first | assumption | exact kt_s (by assumption))
      (first
        | (go_at_call 11; refine (istext_to o a b c n T HT.out _ (kt_of (by assumption)).kn.ops (kt_of (by assumption)).kn.tab).mono ?_; rintro e w5 ⟨rfl, hb5⟩; have hk5 := KT.below (kt_of (by assumption)) hb5)
        | (go_at_call 12; refine (reftx_to o a b c n T HT.out _).mono ?_; rintro e w6 ⟨rfl, hb6⟩; have hk6 := KT.below (kt_of (by assumption)) hb6)
        | (go_at_call 8; refine (known_any _ (kt_of (by assumption)).kn.ops (kt_of (by assumption)).kn.tab).mono ?_; rintro e w7 ⟨rfl, hb7⟩; have hk7 := KT.below (kt_of (by assumption)) hb7))
    go_wp2_with fail
    go_ret
    exact ⟨rfl, hk7.kn.base⟩
end Go.Proofs.YtfpgalckmfdcmaaDoor
