/- isa.Text of any right instruction. Conditions: the library's table of powers of ten and the table of operations read as they are laid. -/
import Derived.Test.YtfpgalckmfdcmaaDoorIsaText
import Derived.Test.YtfpgalckmfdcmaaDoorIsaTxtN
namespace Go.Proofs.YtfpgalckmfdcmaaDoor
open Go Go.RowKit
/-- what an operand is in the text -/
def argT (k : UInt8) (v : Int) : List UInt8 := if k = 110 then 32 :: Lib.itoa v else 32 :: 114 :: Lib.itoa v
def textF (nm form : List UInt8) (a b c n : Int) : List UInt8 := nm ++ form.flatMap fun k => argT k (letterOf a b c n (k.toNat : Int))
/-- what the text of an instruction finds -/
structure TL (w W : World) (op : Nat) (nm : List UInt8) (p a b c n : Int) : Prop where
  base : Below w.heap.size w W
  nm : W.cell? ⟨0, op * 2, none⟩ = some (.string ⟨nm.toArray⟩)
  pt : W.cell? ⟨0, op * 2 + 1, none⟩ = some (.int .i64 p)
  c0 : W.cell? ⟨w.heap.size, 0, none⟩ = some (.int .i64 op)
  c1 : W.cell? ⟨w.heap.size, 1, none⟩ = some (.int .i64 a)
  c2 : W.cell? ⟨w.heap.size, 2, none⟩ = some (.int .i64 b)
  c3 : W.cell? ⟨w.heap.size, 3, none⟩ = some (.int .i64 c)
  c4 : W.cell? ⟨w.heap.size, 4, none⟩ = some (.int .i64 n)
theorem TL.below {w W W' : World} {op : Nat} {nm : List UInt8} {p a b c n : Int} (h : TL w W op nm p a b c n) (hb : Below W.heap.size W W') : TL w W' op nm p a b c n :=
  have st : ∀ (p : Addr) (u : Value), W.cell? p = some u → W'.cell? p = some u := fun p _ hv => (hb.cell (p := p) (World.block_lt_of_cell? W _ hv)).trans hv
  ⟨h.base.trans (hb.mono h.base.size), st _ _ h.nm, st _ _ h.pt, st _ _ h.c0, st _ _ h.c1, st _ _ h.c2, st _ _ h.c3, st _ _ h.c4⟩
theorem itoa_len {v : Int} (h0 : -9223372036854775808 ≤ v) (h1 : v ≤ 9223372036854775807) : (Lib.itoa v).length ≤ 20 := by
  have h := dec_len 19 v.natAbs (by decide) (by omega)
  by_cases q : v < 0
  · rw [itoa_neg' q, List.length_cons]; omega
  · rw [itoa_abs_pos (by omega)]; omega
theorem ret_text {s : ByteArray} {l : List UInt8} (h : s.data.toList = l) : Ending.returned (.string s) = .returned (.string ⟨l.toArray⟩) := by
  congr 2
  apply ByteArray.ext
  apply Array.ext'
  simpa using h
set_option maxRecDepth 100000 in
set_option maxHeartbeats 4000000 in
theorem txt_0 (op : Nat) (h0 : 1 ≤ op) (h1 : op ≤ 36) (nm : List UInt8) (a b c n : Int) (hc : chkOf op a b c n = 0) (_ : nm.length ≤ 20) (w : World) (ho : Ops w) (ht : Tab w)
    (hnm : w.cell? ⟨0, op * 2, none⟩ = some (.string ⟨nm.toArray⟩)) (hpt : w.cell? ⟨0, op * 2 + 1, none⟩ = some (.int .i64 0)) :
    Calls Tryd.prog 11 #[.agg #[.int .i64 op, .int .i64 a, .int .i64 b, .int .i64 c, .int .i64 n]] w fun e w' => e = .returned (.string ⟨(textF nm [] a b c n).toArray⟩) ∧ Below w.heap.size w w' := by
  have HO := Lib.hid ho
  have HT := Lib.hid ht
  have HNM := Lib.hid hnm
  have HPT := Lib.hid hpt
  have hj0 := fun W => (ix4 a b c n W).1
  have hj1 := fun W => (ix4 a b c n W).2.1
  have hj2 := fun W => (ix4 a b c n W).2.2.1
  have hj3 := fun W => (ix4 a b c n W).2.2.2
  obtain ⟨⟨ha0, ha1⟩, ⟨hb0, hb1⟩, ⟨hc0, hc1⟩, hn0, hn1⟩ := chk_bounds (by rw [← chkOf_yes h0 h1]; exact hc)
  have b0 : bits BinOp.and IntKind.i64 0 1 = 0 := by decide
  have b1 : bits BinOp.and IntKind.i64 (0 / 2) 1 = 0 := by decide
  have b2 : bits BinOp.and IntKind.i64 (0 / 4) 1 = 0 := by decide
  have b3 : bits BinOp.and IntKind.i64 (0 / 8) 1 = 0 := by decide
  have hla := itoa_len (v := a) (by omega) (by omega)
  have hlb := itoa_len (v := b) (by omega) (by omega)
  have hlc := itoa_len (v := c) (by omega) (by omega)
  have hln := itoa_len (v := n) (by omega) (by omega)
  clear ho ht hnm hpt
  go_enter Tryd.func11, Tryd.ntmps11
  go_wp2_with fail
  refine (check_any op a b c n _ (ops_below HO.out (Nat.le_refl _) ((Below.refl w.heap.size w).alloc (Nat.le_refl _) _))).mono ?_
  rintro e w1 ⟨rfl, hb⟩
  rw [hc]
  have hF : TL w w1 op nm 0 a b c n := by
    obtain ⟨d0, d1, d2, d3, d4⟩ := ins_cells hb
    have hbw : Below w.heap.size w w1 := ((Below.refl w.heap.size w).alloc (Nat.le_refl _) _).trans (hb.mono (by simp))
    exact ⟨hbw, (hbw.cell (World.block_lt_of_cell? w _ HNM.out)).trans HNM.out, (hbw.cell (World.block_lt_of_cell? w _ HPT.out)).trans HPT.out, d0, d1, d2, d3, d4⟩
  have HF0 := Lib.hid hF
  obtain ⟨_, e1, e2, e3, e4, e5, e6, e7⟩ := hF
  clear hb
  go_wp2_with fail
  refine wp_loop_rounds 5 ?_
  rw [rounds_succ]
  go_wp2_with fail
  rw [rounds_succ]
  go_wp2_with fail
  rw [rounds_succ]
  go_wp2_with fail
  rw [rounds_succ]
  go_wp2_with fail
  rw [rounds_succ]
  go_wp2_with fail
  go_ret
  exact ⟨ret_text (by simp [textF, argT, letterOf]), HF0.out.base⟩
set_option maxRecDepth 100000 in
set_option maxHeartbeats 4000000 in
theorem txt_1 (op : Nat) (h0 : 1 ≤ op) (h1 : op ≤ 36) (nm : List UInt8) (a b c n : Int) (hc : chkOf op a b c n = 0) (hnl : nm.length ≤ 20) (w : World) (ho : Ops w) (ht : Tab w)
    (hnm : w.cell? ⟨0, op * 2, none⟩ = some (.string ⟨nm.toArray⟩)) (hpt : w.cell? ⟨0, op * 2 + 1, none⟩ = some (.int .i64 1)) :
    Calls Tryd.prog 11 #[.agg #[.int .i64 op, .int .i64 a, .int .i64 b, .int .i64 c, .int .i64 n]] w fun e w' => e = .returned (.string ⟨(textF nm [97] a b c n).toArray⟩) ∧ Below w.heap.size w w' := by
  have HO := Lib.hid ho
  have HT := Lib.hid ht
  have HNM := Lib.hid hnm
  have HPT := Lib.hid hpt
  have hj0 := fun W => (ix4 a b c n W).1
  have hj1 := fun W => (ix4 a b c n W).2.1
  have hj2 := fun W => (ix4 a b c n W).2.2.1
  have hj3 := fun W => (ix4 a b c n W).2.2.2
  obtain ⟨⟨ha0, ha1⟩, ⟨hb0, hb1⟩, ⟨hc0, hc1⟩, hn0, hn1⟩ := chk_bounds (by rw [← chkOf_yes h0 h1]; exact hc)
  have b0 : bits BinOp.and IntKind.i64 1 1 = 1 := by decide
  have b1 : bits BinOp.and IntKind.i64 (1 / 2) 1 = 0 := by decide
  have b2 : bits BinOp.and IntKind.i64 (1 / 4) 1 = 0 := by decide
  have b3 : bits BinOp.and IntKind.i64 (1 / 8) 1 = 0 := by decide
  have hla := itoa_len (v := a) (by omega) (by omega)
  have hlb := itoa_len (v := b) (by omega) (by omega)
  have hlc := itoa_len (v := c) (by omega) (by omega)
  have hln := itoa_len (v := n) (by omega) (by omega)
  clear ho ht hnm hpt
  go_enter Tryd.func11, Tryd.ntmps11
  go_wp2_with fail
  refine (check_any op a b c n _ (ops_below HO.out (Nat.le_refl _) ((Below.refl w.heap.size w).alloc (Nat.le_refl _) _))).mono ?_
  rintro e w1 ⟨rfl, hb⟩
  rw [hc]
  have hF : TL w w1 op nm 1 a b c n := by
    obtain ⟨d0, d1, d2, d3, d4⟩ := ins_cells hb
    have hbw : Below w.heap.size w w1 := ((Below.refl w.heap.size w).alloc (Nat.le_refl _) _).trans (hb.mono (by simp))
    exact ⟨hbw, (hbw.cell (World.block_lt_of_cell? w _ HNM.out)).trans HNM.out, (hbw.cell (World.block_lt_of_cell? w _ HPT.out)).trans HPT.out, d0, d1, d2, d3, d4⟩
  have HF0 := Lib.hid hF
  obtain ⟨_, e1, e2, e3, e4, e5, e6, e7⟩ := hF
  clear hb
  go_wp2_with fail
  refine wp_loop_rounds 5 ?_
  rw [rounds_succ]
  go_wp2_with fail
  refine (text_any a (by omega) (by omega) _ (tab_below HT.out (Nat.le_refl _) HF0.out.base)).mono ?_
  rintro e w2 ⟨rfl, hb⟩
  have HF1 := Lib.hid (TL.below HF0.out hb)
  obtain ⟨_, e1, e2, e3, e4, e5, e6, e7⟩ := HF1.out
  clear hb
  go_wp2_with fail
  rw [rounds_succ]
  go_wp2_with fail
  rw [rounds_succ]
  go_wp2_with fail
  rw [rounds_succ]
  go_wp2_with fail
  rw [rounds_succ]
  go_wp2_with fail
  go_ret
  exact ⟨ret_text (by simp [textF, argT, letterOf]), HF1.out.base⟩
set_option maxRecDepth 100000 in
set_option maxHeartbeats 4000000 in
theorem txt_3 (op : Nat) (h0 : 1 ≤ op) (h1 : op ≤ 36) (nm : List UInt8) (a b c n : Int) (hc : chkOf op a b c n = 0) (hnl : nm.length ≤ 20) (w : World) (ho : Ops w) (ht : Tab w)
    (hnm : w.cell? ⟨0, op * 2, none⟩ = some (.string ⟨nm.toArray⟩)) (hpt : w.cell? ⟨0, op * 2 + 1, none⟩ = some (.int .i64 3)) :
    Calls Tryd.prog 11 #[.agg #[.int .i64 op, .int .i64 a, .int .i64 b, .int .i64 c, .int .i64 n]] w fun e w' => e = .returned (.string ⟨(textF nm [97, 98] a b c n).toArray⟩) ∧ Below w.heap.size w w' := by
  have HO := Lib.hid ho
  have HT := Lib.hid ht
  have HNM := Lib.hid hnm
  have HPT := Lib.hid hpt
  have hj0 := fun W => (ix4 a b c n W).1
  have hj1 := fun W => (ix4 a b c n W).2.1
  have hj2 := fun W => (ix4 a b c n W).2.2.1
  have hj3 := fun W => (ix4 a b c n W).2.2.2
  obtain ⟨⟨ha0, ha1⟩, ⟨hb0, hb1⟩, ⟨hc0, hc1⟩, hn0, hn1⟩ := chk_bounds (by rw [← chkOf_yes h0 h1]; exact hc)
  have b0 : bits BinOp.and IntKind.i64 3 1 = 1 := by decide
  have b1 : bits BinOp.and IntKind.i64 (3 / 2) 1 = 1 := by decide
  have b2 : bits BinOp.and IntKind.i64 (3 / 4) 1 = 0 := by decide
  have b3 : bits BinOp.and IntKind.i64 (3 / 8) 1 = 0 := by decide
  have hla := itoa_len (v := a) (by omega) (by omega)
  have hlb := itoa_len (v := b) (by omega) (by omega)
  have hlc := itoa_len (v := c) (by omega) (by omega)
  have hln := itoa_len (v := n) (by omega) (by omega)
  clear ho ht hnm hpt
  go_enter Tryd.func11, Tryd.ntmps11
  go_wp2_with fail
  refine (check_any op a b c n _ (ops_below HO.out (Nat.le_refl _) ((Below.refl w.heap.size w).alloc (Nat.le_refl _) _))).mono ?_
  rintro e w1 ⟨rfl, hb⟩
  rw [hc]
  have hF : TL w w1 op nm 3 a b c n := by
    obtain ⟨d0, d1, d2, d3, d4⟩ := ins_cells hb
    have hbw : Below w.heap.size w w1 := ((Below.refl w.heap.size w).alloc (Nat.le_refl _) _).trans (hb.mono (by simp))
    exact ⟨hbw, (hbw.cell (World.block_lt_of_cell? w _ HNM.out)).trans HNM.out, (hbw.cell (World.block_lt_of_cell? w _ HPT.out)).trans HPT.out, d0, d1, d2, d3, d4⟩
  have HF0 := Lib.hid hF
  obtain ⟨_, e1, e2, e3, e4, e5, e6, e7⟩ := hF
  clear hb
  go_wp2_with fail
  refine wp_loop_rounds 5 ?_
  rw [rounds_succ]
  go_wp2_with fail
  refine (text_any a (by omega) (by omega) _ (tab_below HT.out (Nat.le_refl _) HF0.out.base)).mono ?_
  rintro e w2 ⟨rfl, hb⟩
  have HF1 := Lib.hid (TL.below HF0.out hb)
  obtain ⟨_, e1, e2, e3, e4, e5, e6, e7⟩ := HF1.out
  clear hb
  go_wp2_with fail
  rw [rounds_succ]
  go_wp2_with fail
  refine (text_any b (by omega) (by omega) _ (tab_below HT.out (Nat.le_refl _) HF1.out.base)).mono ?_
  rintro e w3 ⟨rfl, hb⟩
  have HF2 := Lib.hid (TL.below HF1.out hb)
  obtain ⟨_, e1, e2, e3, e4, e5, e6, e7⟩ := HF2.out
  clear hb
  go_wp2_with fail
  rw [rounds_succ]
  go_wp2_with fail
  rw [rounds_succ]
  go_wp2_with fail
  rw [rounds_succ]
  go_wp2_with fail
  go_ret
  exact ⟨ret_text (by simp [textF, argT, letterOf]), HF2.out.base⟩
set_option maxRecDepth 100000 in
set_option maxHeartbeats 4000000 in
theorem txt_7 (op : Nat) (h0 : 1 ≤ op) (h1 : op ≤ 36) (nm : List UInt8) (a b c n : Int) (hc : chkOf op a b c n = 0) (hnl : nm.length ≤ 20) (w : World) (ho : Ops w) (ht : Tab w)
    (hnm : w.cell? ⟨0, op * 2, none⟩ = some (.string ⟨nm.toArray⟩)) (hpt : w.cell? ⟨0, op * 2 + 1, none⟩ = some (.int .i64 7)) :
    Calls Tryd.prog 11 #[.agg #[.int .i64 op, .int .i64 a, .int .i64 b, .int .i64 c, .int .i64 n]] w fun e w' => e = .returned (.string ⟨(textF nm [97, 98, 99] a b c n).toArray⟩) ∧ Below w.heap.size w w' := by
  have HO := Lib.hid ho
  have HT := Lib.hid ht
  have HNM := Lib.hid hnm
  have HPT := Lib.hid hpt
  have hj0 := fun W => (ix4 a b c n W).1
  have hj1 := fun W => (ix4 a b c n W).2.1
  have hj2 := fun W => (ix4 a b c n W).2.2.1
  have hj3 := fun W => (ix4 a b c n W).2.2.2
  obtain ⟨⟨ha0, ha1⟩, ⟨hb0, hb1⟩, ⟨hc0, hc1⟩, hn0, hn1⟩ := chk_bounds (by rw [← chkOf_yes h0 h1]; exact hc)
  have b0 : bits BinOp.and IntKind.i64 7 1 = 1 := by decide
  have b1 : bits BinOp.and IntKind.i64 (7 / 2) 1 = 1 := by decide
  have b2 : bits BinOp.and IntKind.i64 (7 / 4) 1 = 1 := by decide
  have b3 : bits BinOp.and IntKind.i64 (7 / 8) 1 = 0 := by decide
  have hla := itoa_len (v := a) (by omega) (by omega)
  have hlb := itoa_len (v := b) (by omega) (by omega)
  have hlc := itoa_len (v := c) (by omega) (by omega)
  have hln := itoa_len (v := n) (by omega) (by omega)
  clear ho ht hnm hpt
  go_enter Tryd.func11, Tryd.ntmps11
  go_wp2_with fail
  refine (check_any op a b c n _ (ops_below HO.out (Nat.le_refl _) ((Below.refl w.heap.size w).alloc (Nat.le_refl _) _))).mono ?_
  rintro e w1 ⟨rfl, hb⟩
  rw [hc]
  have hF : TL w w1 op nm 7 a b c n := by
    obtain ⟨d0, d1, d2, d3, d4⟩ := ins_cells hb
    have hbw : Below w.heap.size w w1 := ((Below.refl w.heap.size w).alloc (Nat.le_refl _) _).trans (hb.mono (by simp))
    exact ⟨hbw, (hbw.cell (World.block_lt_of_cell? w _ HNM.out)).trans HNM.out, (hbw.cell (World.block_lt_of_cell? w _ HPT.out)).trans HPT.out, d0, d1, d2, d3, d4⟩
  have HF0 := Lib.hid hF
  obtain ⟨_, e1, e2, e3, e4, e5, e6, e7⟩ := hF
  clear hb
  go_wp2_with fail
  refine wp_loop_rounds 5 ?_
  rw [rounds_succ]
  go_wp2_with fail
  refine (text_any a (by omega) (by omega) _ (tab_below HT.out (Nat.le_refl _) HF0.out.base)).mono ?_
  rintro e w2 ⟨rfl, hb⟩
  have HF1 := Lib.hid (TL.below HF0.out hb)
  obtain ⟨_, e1, e2, e3, e4, e5, e6, e7⟩ := HF1.out
  clear hb
  go_wp2_with fail
  rw [rounds_succ]
  go_wp2_with fail
  refine (text_any b (by omega) (by omega) _ (tab_below HT.out (Nat.le_refl _) HF1.out.base)).mono ?_
  rintro e w3 ⟨rfl, hb⟩
  have HF2 := Lib.hid (TL.below HF1.out hb)
  obtain ⟨_, e1, e2, e3, e4, e5, e6, e7⟩ := HF2.out
  clear hb
  go_wp2_with fail
  rw [rounds_succ]
  go_wp2_with fail
  refine (text_any c (by omega) (by omega) _ (tab_below HT.out (Nat.le_refl _) HF2.out.base)).mono ?_
  rintro e w4 ⟨rfl, hb⟩
  have HF3 := Lib.hid (TL.below HF2.out hb)
  obtain ⟨_, e1, e2, e3, e4, e5, e6, e7⟩ := HF3.out
  clear hb
  go_wp2_with fail
  rw [rounds_succ]
  go_wp2_with fail
  rw [rounds_succ]
  go_wp2_with fail
  go_ret
  exact ⟨ret_text (by simp [textF, argT, letterOf]), HF3.out.base⟩
set_option maxRecDepth 100000 in
set_option maxHeartbeats 4000000 in
theorem txt_8 (op : Nat) (h0 : 1 ≤ op) (h1 : op ≤ 36) (nm : List UInt8) (a b c n : Int) (hc : chkOf op a b c n = 0) (hnl : nm.length ≤ 20) (w : World) (ho : Ops w) (ht : Tab w)
    (hnm : w.cell? ⟨0, op * 2, none⟩ = some (.string ⟨nm.toArray⟩)) (hpt : w.cell? ⟨0, op * 2 + 1, none⟩ = some (.int .i64 8)) :
    Calls Tryd.prog 11 #[.agg #[.int .i64 op, .int .i64 a, .int .i64 b, .int .i64 c, .int .i64 n]] w fun e w' => e = .returned (.string ⟨(textF nm [110] a b c n).toArray⟩) ∧ Below w.heap.size w w' := by
  have HO := Lib.hid ho
  have HT := Lib.hid ht
  have HNM := Lib.hid hnm
  have HPT := Lib.hid hpt
  have hj0 := fun W => (ix4 a b c n W).1
  have hj1 := fun W => (ix4 a b c n W).2.1
  have hj2 := fun W => (ix4 a b c n W).2.2.1
  have hj3 := fun W => (ix4 a b c n W).2.2.2
  obtain ⟨⟨ha0, ha1⟩, ⟨hb0, hb1⟩, ⟨hc0, hc1⟩, hn0, hn1⟩ := chk_bounds (by rw [← chkOf_yes h0 h1]; exact hc)
  have b0 : bits BinOp.and IntKind.i64 8 1 = 0 := by decide
  have b1 : bits BinOp.and IntKind.i64 (8 / 2) 1 = 0 := by decide
  have b2 : bits BinOp.and IntKind.i64 (8 / 4) 1 = 0 := by decide
  have b3 : bits BinOp.and IntKind.i64 (8 / 8) 1 = 1 := by decide
  have hla := itoa_len (v := a) (by omega) (by omega)
  have hlb := itoa_len (v := b) (by omega) (by omega)
  have hlc := itoa_len (v := c) (by omega) (by omega)
  have hln := itoa_len (v := n) (by omega) (by omega)
  clear ho ht hnm hpt
  go_enter Tryd.func11, Tryd.ntmps11
  go_wp2_with fail
  refine (check_any op a b c n _ (ops_below HO.out (Nat.le_refl _) ((Below.refl w.heap.size w).alloc (Nat.le_refl _) _))).mono ?_
  rintro e w1 ⟨rfl, hb⟩
  rw [hc]
  have hF : TL w w1 op nm 8 a b c n := by
    obtain ⟨d0, d1, d2, d3, d4⟩ := ins_cells hb
    have hbw : Below w.heap.size w w1 := ((Below.refl w.heap.size w).alloc (Nat.le_refl _) _).trans (hb.mono (by simp))
    exact ⟨hbw, (hbw.cell (World.block_lt_of_cell? w _ HNM.out)).trans HNM.out, (hbw.cell (World.block_lt_of_cell? w _ HPT.out)).trans HPT.out, d0, d1, d2, d3, d4⟩
  have HF0 := Lib.hid hF
  obtain ⟨_, e1, e2, e3, e4, e5, e6, e7⟩ := hF
  clear hb
  go_wp2_with fail
  refine wp_loop_rounds 5 ?_
  rw [rounds_succ]
  go_wp2_with fail
  rw [rounds_succ]
  go_wp2_with fail
  rw [rounds_succ]
  go_wp2_with fail
  rw [rounds_succ]
  go_wp2_with fail
  refine (text_any n (by omega) (by omega) _ (tab_below HT.out (Nat.le_refl _) HF0.out.base)).mono ?_
  rintro e w2 ⟨rfl, hb⟩
  have HF1 := Lib.hid (TL.below HF0.out hb)
  obtain ⟨_, e1, e2, e3, e4, e5, e6, e7⟩ := HF1.out
  clear hb
  go_wp2_with fail
  rw [rounds_succ]
  go_wp2_with fail
  go_ret
  exact ⟨ret_text (by simp [textF, argT, letterOf]), HF1.out.base⟩
set_option maxRecDepth 100000 in
set_option maxHeartbeats 4000000 in
theorem txt_9 (op : Nat) (h0 : 1 ≤ op) (h1 : op ≤ 36) (nm : List UInt8) (a b c n : Int) (hc : chkOf op a b c n = 0) (hnl : nm.length ≤ 20) (w : World) (ho : Ops w) (ht : Tab w)
    (hnm : w.cell? ⟨0, op * 2, none⟩ = some (.string ⟨nm.toArray⟩)) (hpt : w.cell? ⟨0, op * 2 + 1, none⟩ = some (.int .i64 9)) :
    Calls Tryd.prog 11 #[.agg #[.int .i64 op, .int .i64 a, .int .i64 b, .int .i64 c, .int .i64 n]] w fun e w' => e = .returned (.string ⟨(textF nm [97, 110] a b c n).toArray⟩) ∧ Below w.heap.size w w' := by
  have HO := Lib.hid ho
  have HT := Lib.hid ht
  have HNM := Lib.hid hnm
  have HPT := Lib.hid hpt
  have hj0 := fun W => (ix4 a b c n W).1
  have hj1 := fun W => (ix4 a b c n W).2.1
  have hj2 := fun W => (ix4 a b c n W).2.2.1
  have hj3 := fun W => (ix4 a b c n W).2.2.2
  obtain ⟨⟨ha0, ha1⟩, ⟨hb0, hb1⟩, ⟨hc0, hc1⟩, hn0, hn1⟩ := chk_bounds (by rw [← chkOf_yes h0 h1]; exact hc)
  have b0 : bits BinOp.and IntKind.i64 9 1 = 1 := by decide
  have b1 : bits BinOp.and IntKind.i64 (9 / 2) 1 = 0 := by decide
  have b2 : bits BinOp.and IntKind.i64 (9 / 4) 1 = 0 := by decide
  have b3 : bits BinOp.and IntKind.i64 (9 / 8) 1 = 1 := by decide
  have hla := itoa_len (v := a) (by omega) (by omega)
  have hlb := itoa_len (v := b) (by omega) (by omega)
  have hlc := itoa_len (v := c) (by omega) (by omega)
  have hln := itoa_len (v := n) (by omega) (by omega)
  clear ho ht hnm hpt
  go_enter Tryd.func11, Tryd.ntmps11
  go_wp2_with fail
  refine (check_any op a b c n _ (ops_below HO.out (Nat.le_refl _) ((Below.refl w.heap.size w).alloc (Nat.le_refl _) _))).mono ?_
  rintro e w1 ⟨rfl, hb⟩
  rw [hc]
  have hF : TL w w1 op nm 9 a b c n := by
    obtain ⟨d0, d1, d2, d3, d4⟩ := ins_cells hb
    have hbw : Below w.heap.size w w1 := ((Below.refl w.heap.size w).alloc (Nat.le_refl _) _).trans (hb.mono (by simp))
    exact ⟨hbw, (hbw.cell (World.block_lt_of_cell? w _ HNM.out)).trans HNM.out, (hbw.cell (World.block_lt_of_cell? w _ HPT.out)).trans HPT.out, d0, d1, d2, d3, d4⟩
  have HF0 := Lib.hid hF
  obtain ⟨_, e1, e2, e3, e4, e5, e6, e7⟩ := hF
  clear hb
  go_wp2_with fail
  refine wp_loop_rounds 5 ?_
  rw [rounds_succ]
  go_wp2_with fail
  refine (text_any a (by omega) (by omega) _ (tab_below HT.out (Nat.le_refl _) HF0.out.base)).mono ?_
  rintro e w2 ⟨rfl, hb⟩
  have HF1 := Lib.hid (TL.below HF0.out hb)
  obtain ⟨_, e1, e2, e3, e4, e5, e6, e7⟩ := HF1.out
  clear hb
  go_wp2_with fail
  rw [rounds_succ]
  go_wp2_with fail
  rw [rounds_succ]
  go_wp2_with fail
  rw [rounds_succ]
  go_wp2_with fail
  refine (text_any n (by omega) (by omega) _ (tab_below HT.out (Nat.le_refl _) HF1.out.base)).mono ?_
  rintro e w3 ⟨rfl, hb⟩
  have HF2 := Lib.hid (TL.below HF1.out hb)
  obtain ⟨_, e1, e2, e3, e4, e5, e6, e7⟩ := HF2.out
  clear hb
  go_wp2_with fail
  rw [rounds_succ]
  go_wp2_with fail
  go_ret
  exact ⟨ret_text (by simp [textF, argT, letterOf]), HF2.out.base⟩
set_option maxRecDepth 100000 in
set_option maxHeartbeats 4000000 in
theorem txt_11 (op : Nat) (h0 : 1 ≤ op) (h1 : op ≤ 36) (nm : List UInt8) (a b c n : Int) (hc : chkOf op a b c n = 0) (hnl : nm.length ≤ 20) (w : World) (ho : Ops w) (ht : Tab w)
    (hnm : w.cell? ⟨0, op * 2, none⟩ = some (.string ⟨nm.toArray⟩)) (hpt : w.cell? ⟨0, op * 2 + 1, none⟩ = some (.int .i64 11)) :
    Calls Tryd.prog 11 #[.agg #[.int .i64 op, .int .i64 a, .int .i64 b, .int .i64 c, .int .i64 n]] w fun e w' => e = .returned (.string ⟨(textF nm [97, 98, 110] a b c n).toArray⟩) ∧ Below w.heap.size w w' := by
  have HO := Lib.hid ho
  have HT := Lib.hid ht
  have HNM := Lib.hid hnm
  have HPT := Lib.hid hpt
  have hj0 := fun W => (ix4 a b c n W).1
  have hj1 := fun W => (ix4 a b c n W).2.1
  have hj2 := fun W => (ix4 a b c n W).2.2.1
  have hj3 := fun W => (ix4 a b c n W).2.2.2
  obtain ⟨⟨ha0, ha1⟩, ⟨hb0, hb1⟩, ⟨hc0, hc1⟩, hn0, hn1⟩ := chk_bounds (by rw [← chkOf_yes h0 h1]; exact hc)
  have b0 : bits BinOp.and IntKind.i64 11 1 = 1 := by decide
  have b1 : bits BinOp.and IntKind.i64 (11 / 2) 1 = 1 := by decide
  have b2 : bits BinOp.and IntKind.i64 (11 / 4) 1 = 0 := by decide
  have b3 : bits BinOp.and IntKind.i64 (11 / 8) 1 = 1 := by decide
  have hla := itoa_len (v := a) (by omega) (by omega)
  have hlb := itoa_len (v := b) (by omega) (by omega)
  have hlc := itoa_len (v := c) (by omega) (by omega)
  have hln := itoa_len (v := n) (by omega) (by omega)
  clear ho ht hnm hpt
  go_enter Tryd.func11, Tryd.ntmps11
  go_wp2_with fail
  refine (check_any op a b c n _ (ops_below HO.out (Nat.le_refl _) ((Below.refl w.heap.size w).alloc (Nat.le_refl _) _))).mono ?_
  rintro e w1 ⟨rfl, hb⟩
  rw [hc]
  have hF : TL w w1 op nm 11 a b c n := by
    obtain ⟨d0, d1, d2, d3, d4⟩ := ins_cells hb
    have hbw : Below w.heap.size w w1 := ((Below.refl w.heap.size w).alloc (Nat.le_refl _) _).trans (hb.mono (by simp))
    exact ⟨hbw, (hbw.cell (World.block_lt_of_cell? w _ HNM.out)).trans HNM.out, (hbw.cell (World.block_lt_of_cell? w _ HPT.out)).trans HPT.out, d0, d1, d2, d3, d4⟩
  have HF0 := Lib.hid hF
  obtain ⟨_, e1, e2, e3, e4, e5, e6, e7⟩ := hF
  clear hb
  go_wp2_with fail
  refine wp_loop_rounds 5 ?_
  rw [rounds_succ]
  go_wp2_with fail
  refine (text_any a (by omega) (by omega) _ (tab_below HT.out (Nat.le_refl _) HF0.out.base)).mono ?_
  rintro e w2 ⟨rfl, hb⟩
  have HF1 := Lib.hid (TL.below HF0.out hb)
  obtain ⟨_, e1, e2, e3, e4, e5, e6, e7⟩ := HF1.out
  clear hb
  go_wp2_with fail
  rw [rounds_succ]
  go_wp2_with fail
  refine (text_any b (by omega) (by omega) _ (tab_below HT.out (Nat.le_refl _) HF1.out.base)).mono ?_
  rintro e w3 ⟨rfl, hb⟩
  have HF2 := Lib.hid (TL.below HF1.out hb)
  obtain ⟨_, e1, e2, e3, e4, e5, e6, e7⟩ := HF2.out
  clear hb
  go_wp2_with fail
  rw [rounds_succ]
  go_wp2_with fail
  rw [rounds_succ]
  go_wp2_with fail
  refine (text_any n (by omega) (by omega) _ (tab_below HT.out (Nat.le_refl _) HF2.out.base)).mono ?_
  rintro e w4 ⟨rfl, hb⟩
  have HF3 := Lib.hid (TL.below HF2.out hb)
  obtain ⟨_, e1, e2, e3, e4, e5, e6, e7⟩ := HF3.out
  clear hb
  go_wp2_with fail
  rw [rounds_succ]
  go_wp2_with fail
  go_ret
  exact ⟨ret_text (by simp [textF, argT, letterOf]), HF3.out.base⟩
theorem row_cases : ∀ n, n < 37 → (partsOf n = 0 ∧ (rowOf n).2.1 = []) ∨ (partsOf n = 1 ∧ (rowOf n).2.1 = [97]) ∨ (partsOf n = 3 ∧ (rowOf n).2.1 = [97, 98]) ∨ (partsOf n = 7 ∧ (rowOf n).2.1 = [97, 98, 99]) ∨ (partsOf n = 8 ∧ (rowOf n).2.1 = [110]) ∨ (partsOf n = 9 ∧ (rowOf n).2.1 = [97, 110]) ∨ (partsOf n = 11 ∧ (rowOf n).2.1 = [97, 98, 110]) := by decide +kernel
theorem row_name : ∀ n, n < 37 → (rowOf n).1.length ≤ 20 := by decide +kernel
/-- the text of any instruction -/
noncomputable def textOf (o a b c n : Int) : List UInt8 := if chkOf o a b c n = 0 then textF (rowOf o.toNat).1 (rowOf o.toNat).2.1 a b c n else []
set_option maxRecDepth 100000 in
set_option maxHeartbeats 4000000 in
theorem txt_bad (op a b c n : Int) (hc : chkOf op a b c n ≠ 0) (w : World) (ho : Ops w) :
    Calls Tryd.prog 11 #[.agg #[.int .i64 op, .int .i64 a, .int .i64 b, .int .i64 c, .int .i64 n]] w fun e w' => e = .returned (.string ⟨#[]⟩) ∧ Below w.heap.size w w' := by
  have HO := Lib.hid ho
  obtain ⟨E, hE⟩ : ∃ E, chkOf op a b c n = E := ⟨_, rfl⟩
  rw [hE] at hc
  have hq : (E != 0) = true := by simpa using hc
  clear ho hc
  go_enter Tryd.func11, Tryd.ntmps11
  go_wp2_with fail
  refine (check_any op a b c n _ (ops_below HO.out (Nat.le_refl _) ((Below.refl w.heap.size w).alloc (Nat.le_refl _) _))).mono ?_
  rintro e w1 ⟨rfl, hb⟩
  rw [hE]
  have HB := Lib.hid (((Below.refl w.heap.size w).alloc (Nat.le_refl _) _).trans (hb.mono (by simp)))
  clear hb
  go_wp2_with fail
  go_ret
  exact ⟨rfl, HB.out⟩
theorem istext_any (op a b c n : Int) (w : World) (ho : Ops w) (ht : Tab w) :
    Calls Tryd.prog 11 #[.agg #[.int .i64 op, .int .i64 a, .int .i64 b, .int .i64 c, .int .i64 n]] w fun e w' => e = .returned (.string ⟨(textOf op a b c n).toArray⟩) ∧ Below w.heap.size w w' := by
  by_cases hc : chkOf op a b c n = 0
  · obtain ⟨h0, h1⟩ := known_of hc
    obtain ⟨k, rfl⟩ := Int.eq_ofNat_of_zero_le (show 0 ≤ op by omega)
    have hk0 : 1 ≤ k := by omega
    have hk1 : k ≤ 36 := by omega
    obtain ⟨hn, hp⟩ := ho k (by omega)
    have hl := row_name k (by omega)
    have e : textOf (k : Int) a b c n = textF (rowOf k).1 (rowOf k).2.1 a b c n := by unfold textOf; rw [if_pos hc]; rfl
    rw [e]
    rcases row_cases k (by omega) with ⟨q1, q2⟩ | ⟨q1, q2⟩ | ⟨q1, q2⟩ | ⟨q1, q2⟩ | ⟨q1, q2⟩ | ⟨q1, q2⟩ | ⟨q1, q2⟩
    · rw [q1] at hp; rw [q2]; exact txt_0 k hk0 hk1 _ a b c n hc hl w ho ht hn hp
    · rw [q1] at hp; rw [q2]; exact txt_1 k hk0 hk1 _ a b c n hc hl w ho ht hn hp
    · rw [q1] at hp; rw [q2]; exact txt_3 k hk0 hk1 _ a b c n hc hl w ho ht hn hp
    · rw [q1] at hp; rw [q2]; exact txt_7 k hk0 hk1 _ a b c n hc hl w ho ht hn hp
    · rw [q1] at hp; rw [q2]; exact txt_8 k hk0 hk1 _ a b c n hc hl w ho ht hn hp
    · rw [q1] at hp; rw [q2]; exact txt_9 k hk0 hk1 _ a b c n hc hl w ho ht hn hp
    · rw [q1] at hp; rw [q2]; exact txt_11 k hk0 hk1 _ a b c n hc hl w ho ht hn hp
  · have e : textOf op a b c n = [] := by unfold textOf; rw [if_neg hc]
    rw [e]
    exact txt_bad op a b c n hc w ho
end Go.Proofs.YtfpgalckmfdcmaaDoor
