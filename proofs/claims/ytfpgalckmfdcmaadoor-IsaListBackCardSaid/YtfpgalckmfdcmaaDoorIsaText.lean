/- Texts of integers in isa's seat, and the fixed instruction of the statements' known calls. Conditions: the library's table of powers of ten and the table of operations read as they are laid. -/
import Derived.Test.YtfpgalckmfdcmaaDoorIsaEnc
import Derived.Test.YtfpgalckmfdcmaaDoorShelf
import Derived.Lib.SmallJoins
import Derived.Lib.AppendIntMem
import Derived.LoopN
namespace Go.Proofs.YtfpgalckmfdcmaaDoor
open Go Go.RowKit
/-- the library's table of powers of ten -/
def Tab (w : World) : Prop := Lib.TabIs Tryd.prog w "internal/strconv.uint64pow10" .u64 Lib.pow10Tab
theorem tab_below {w w' : World} {B : Nat} (h : Tab w) (hB : w.heap.size ≤ B) (hb : Below B w w') : Tab w' :=
  Joins.tab_stays (g := 2) (by kernel_rfl) h hb hB
set_option maxHeartbeats 400000 in
theorem text_any (n : Int) (h0 : -9223372036854775808 ≤ n) (h1 : n ≤ 9223372036854775807) (w : World) (ht : Tab w) :
    Calls Tryd.prog 28 #[.int .i64 n] w fun e w' => e = .returned (.string ⟨(Lib.itoa n).toArray⟩) ∧ Below w.heap.size w w' := by
  go_enter Tryd.func28, Tryd.ntmps28
  go_wp2_with (first | (go_at_call 52; refine (Tryd.internal_strconv_FormatInt_10 n h0 h1 _ ht).mono ?_; rintro e w' ⟨rfl, k, os, rfl⟩) | go_in)
  go_ret
  exact ⟨rfl, Lib.below_grow _ _ (Nat.le_refl _) _ _⟩
theorem text_dig (n : Int) (c : UInt8) (h0 : -9223372036854775808 ≤ n) (h1 : n ≤ 9223372036854775807) (hi : Lib.itoa n = [c]) (w : World) (ht : Tab w) :
    Calls Tryd.prog 28 #[.int .i64 n] w fun e w' => e = .returned (.string ⟨#[c]⟩) ∧ Below w.heap.size w w' := by
  refine (text_any n h0 h1 w ht).mono ?_
  rintro e w' ⟨rfl, hb⟩
  exact ⟨by rw [hi], hb⟩
theorem itoa1 : Lib.itoa 1 = [49] := by unfold Lib.itoa Lib.decDigits; decide
theorem itoa2 : Lib.itoa 2 = [50] := by unfold Lib.itoa Lib.decDigits; decide
theorem itoa5 : Lib.itoa 5 = [53] := by unfold Lib.itoa Lib.decDigits; decide
theorem chk_field : chkOf 19 1 2 0 5 = 0 := by
  rw [show (19 : Int) = ((19 : Nat) : Int) from rfl, chkOf_yes (by decide) (by decide)]
  apply chk_0
  · unfold badR; decide
  · unfold badZ badN; decide
theorem chk_add : chkOf 7 1 2 3 0 = 0 := by
  rw [show (7 : Int) = ((7 : Nat) : Int) from rfl, chkOf_yes (by decide) (by decide)]
  apply chk_0
  · unfold badR; decide
  · unfold badZ badN; decide
theorem word_add : wordOf 7 1 2 3 0 = 50462983 := by
  unfold wordOf; rw [if_pos chk_add]; decide
/-- what the text of the fixed instruction finds -/
structure FLay (w W : World) : Prop where
  base : Below w.heap.size w W
  nm : W.cell? ⟨0, 38, none⟩ = some (.string ⟨#[102, 105, 101, 108, 100]⟩)
  pt : W.cell? ⟨0, 39, none⟩ = some (.int .i64 11)
  c0 : W.cell? ⟨w.heap.size, 0, none⟩ = some (.int .i64 19)
  c1 : W.cell? ⟨w.heap.size, 1, none⟩ = some (.int .i64 1)
  c2 : W.cell? ⟨w.heap.size, 2, none⟩ = some (.int .i64 2)
  c3 : W.cell? ⟨w.heap.size, 3, none⟩ = some (.int .i64 0)
  c4 : W.cell? ⟨w.heap.size, 4, none⟩ = some (.int .i64 5)
theorem FLay.below {w W W' : World} (h : FLay w W) (hb : Below W.heap.size W W') : FLay w W' :=
  have st : ∀ (p : Addr) (u : Value), W.cell? p = some u → W'.cell? p = some u := fun p _ hv => (hb.cell (p := p) (World.block_lt_of_cell? W _ hv)).trans hv
  ⟨h.base.trans (hb.mono h.base.size), st _ _ h.nm, st _ _ h.pt, st _ _ h.c0, st _ _ h.c1, st _ _ h.c2, st _ _ h.c3, st _ _ h.c4⟩
set_option maxRecDepth 100000 in
set_option maxHeartbeats 4000000 in
theorem text_field (w : World) (ho : Ops w) (ht : Tab w) :
    Calls Tryd.prog 11 #[.agg #[.int .i64 19, .int .i64 1, .int .i64 2, .int .i64 0, .int .i64 5]] w fun e w' => e = .returned (.string ⟨#[102, 105, 101, 108, 100, 32, 114, 49, 32, 114, 50, 32, 53]⟩) ∧ Below w.heap.size w w' := by
  have HO := Lib.hid ho
  have HT := Lib.hid ht
  have hj0 := fun W => (ix4 1 2 0 5 W).1
  have hj1 := fun W => (ix4 1 2 0 5 W).2.1
  have hj2 := fun W => (ix4 1 2 0 5 W).2.2.1
  have hj3 := fun W => (ix4 1 2 0 5 W).2.2.2
  have b0 : bits BinOp.and IntKind.i64 11 1 = 1 := by decide
  have b1 : bits BinOp.and IntKind.i64 (11 / 2) 1 = 1 := by decide
  have b2 : bits BinOp.and IntKind.i64 (11 / 4) 1 = 0 := by decide
  have b3 : bits BinOp.and IntKind.i64 (11 / 8) 1 = 1 := by decide
  clear ho ht
  go_enter Tryd.func11, Tryd.ntmps11
  go_wp2_with fail
  refine (check_any 19 1 2 0 5 _ (ops_below HO.out (Nat.le_refl _) ((Below.refl w.heap.size w).alloc (Nat.le_refl _) _))).mono ?_
  rintro e w1 ⟨rfl, hb⟩
  rw [chk_field]
  have hF : FLay w w1 := by
    obtain ⟨d0, d1, d2, d3, d4⟩ := ins_cells hb
    have hbw : Below w.heap.size w w1 := ((Below.refl w.heap.size w).alloc (Nat.le_refl _) _).trans (hb.mono (by simp))
    have hq := ops_below HO.out (Nat.le_refl _) hbw 19 (by decide)
    exact ⟨hbw, hq.1, hq.2, d0, d1, d2, d3, d4⟩
  have HF := Lib.hid hF
  obtain ⟨_, e1, e2, e3, e4, e5, e6, e7⟩ := hF
  clear hb
  go_wp2_with fail
  refine wp_loop_rounds 5 ?_
  rw [rounds_succ]
  go_wp2_with fail
  refine (text_dig 1 49 (by decide) (by decide) itoa1 _ (tab_below HT.out (Nat.le_refl _) HF.out.base)).mono ?_
  rintro e w2 ⟨rfl, hb⟩
  have HF2 := Lib.hid (FLay.below HF.out hb)
  obtain ⟨_, e1, e2, e3, e4, e5, e6, e7⟩ := HF2.out
  clear hb
  go_wp2_with fail
  rw [rounds_succ]
  go_wp2_with fail
  refine (text_dig 2 50 (by decide) (by decide) itoa2 _ (tab_below HT.out (Nat.le_refl _) HF2.out.base)).mono ?_
  rintro e w3 ⟨rfl, hb⟩
  have HF3 := Lib.hid (FLay.below HF2.out hb)
  obtain ⟨_, e1, e2, e3, e4, e5, e6, e7⟩ := HF3.out
  clear hb
  go_wp2_with fail
  rw [rounds_succ]
  go_wp2_with fail
  rw [rounds_succ]
  go_wp2_with fail
  refine (text_dig 5 53 (by decide) (by decide) itoa5 _ (tab_below HT.out (Nat.le_refl _) HF3.out.base)).mono ?_
  rintro e w4 ⟨rfl, hb⟩
  have HF4 := Lib.hid (FLay.below HF3.out hb)
  obtain ⟨_, e1, e2, e3, e4, e5, e6, e7⟩ := HF4.out
  clear hb
  go_wp2_with fail
  rw [rounds_succ]
  go_wp2_with fail
  go_ret
  exact ⟨rfl, HF4.out.base⟩
end Go.Proofs.YtfpgalckmfdcmaaDoor
