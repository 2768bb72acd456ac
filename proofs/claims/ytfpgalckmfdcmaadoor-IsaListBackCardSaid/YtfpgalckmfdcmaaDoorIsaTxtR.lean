/- Text of the reference, of any right instruction. Conditions: none. -/
import Derived.Test.YtfpgalckmfdcmaaDoorIsaTxt
import Derived.Test.YtfpgalckmfdcmaaDoorIsaCheckI
import Derived.Deep.RegionHeld3
import Derived.Laws.Concat
namespace Go.Proofs.YtfpgalckmfdcmaaDoor
open Go Go.RowKit
/-- what the reference's Text finds -/
structure TR (w W : World) (R : Nat) (o a b c n : Int) (fm : ByteArray) : Prop where
  base : Below w.heap.size w W
  c0 : W.cell? ⟨w.heap.size, 0, none⟩ = some (.int .i64 o)
  c1 : W.cell? ⟨w.heap.size, 1, none⟩ = some (.int .i64 a)
  c2 : W.cell? ⟨w.heap.size, 2, none⟩ = some (.int .i64 b)
  c3 : W.cell? ⟨w.heap.size, 3, none⟩ = some (.int .i64 c)
  c4 : W.cell? ⟨w.heap.size, 4, none⟩ = some (.int .i64 n)
  form : W.cell? ⟨R, 1, none⟩ = some (.string fm)
theorem TR.below {w W W' : World} {R : Nat} {o a b c n : Int} {fm : ByteArray} (h : TR w W R o a b c n fm) (hb : Below W.heap.size W W') : TR w W' R o a b c n fm :=
  have st : ∀ (p : Addr) (u : Value), W.cell? p = some u → W'.cell? p = some u := fun p _ hv => (hb.cell (p := p) (World.block_lt_of_cell? W _ hv)).trans hv
  ⟨h.base.trans (hb.mono h.base.size), st _ _ h.c0, st _ _ h.c1, st _ _ h.c2, st _ _ h.c3, st _ _ h.c4, st _ _ h.form⟩
theorem tr_s {w W : World} {R : Nat} {o a b c n : Int} {fm : ByteArray} (h : TR w W R o a b c n fm) :
    W.cell? ⟨w.heap.size, 0, none⟩ = some (.int .i64 o) ∧ W.cell? ⟨w.heap.size, 1, none⟩ = some (.int .i64 a) ∧ W.cell? ⟨w.heap.size, 2, none⟩ = some (.int .i64 b) ∧ W.cell? ⟨w.heap.size, 3, none⟩ = some (.int .i64 c) ∧ W.cell? ⟨w.heap.size, 4, none⟩ = some (.int .i64 n) ∧ W.cell? ⟨R, 1, none⟩ = some (.string fm) ∧ TR w W R o a b c n fm :=
  ⟨h.c0, h.c1, h.c2, h.c3, h.c4, h.form, h⟩
theorem tr_of {p q r t u x : Prop} {w W : World} {R : Nat} {o a b c n : Int} {fm : ByteArray} (h : p ∧ q ∧ r ∧ t ∧ u ∧ x ∧ TR w W R o a b c n fm) : TR w W R o a b c n fm := h.2.2.2.2.2.2
theorem reftext_to (n : Int) (h0 : -9223372036854775808 ≤ n) (h1 : n ≤ 9223372036854775807) (T : ByteArray) (hT : (⟨(Lib.itoa n).toArray⟩ : ByteArray) = T) (w : World) :
    Calls Tryd.prog 31 #[.int .i64 n] w fun e w' => e = .returned (.string T) ∧ Below w.heap.size w w' := by
  subst hT; exact reftext_any n h0 h1 w
set_option maxRecDepth 100000 in
set_option maxHeartbeats 4000000 in
theorem rtx_0 (op : Nat) (h0 : 1 ≤ op) (h1 : op ≤ 36) (nm : List UInt8) (f2 f3 : ByteArray) (a b c n : Int) (hc : chkOf op a b c n = 0) (_ : nm.length ≤ 20) (w : World)
    (hrow : rowV op = .agg #[.string ⟨nm.toArray⟩, .string ⟨#[]⟩, .string f2, .string f3]) :
    Calls Tryd.prog 12 #[.agg #[.int .i64 op, .int .i64 a, .int .i64 b, .int .i64 c, .int .i64 n]] w fun e w' => e = .returned (.string ⟨(textF nm [] a b c n).toArray⟩) ∧ Below w.heap.size w w' := by
  have HROW := Lib.hid hrow
  obtain ⟨⟨ha0, ha1⟩, ⟨hb0, hb1⟩, ⟨hc0, hc1⟩, hn0, hn1⟩ := chk_bounds (by rw [← chkOf_yes h0 h1]; exact hc)
  have hla := itoa_len (v := a) (by omega) (by omega)
  have hlb := itoa_len (v := b) (by omega) (by omega)
  have hlc := itoa_len (v := c) (by omega) (by omega)
  have hln := itoa_len (v := n) (by omega) (by omega)
  clear hrow
  go_enter Tryd.func12, Tryd.ntmps12
  go_wp2_with fail
  refine (refcheck_any op a b c n _).mono ?_
  rintro e w1 ⟨rfl, hb⟩
  rw [hc]
  obtain ⟨d0, d1, d2, d3, d4⟩ := ins_cells hb
  have HB1 := Lib.hid (((Below.refl w.heap.size w).alloc (Nat.le_refl _) _).trans (hb.mono (by simp)))
  have D0 := Lib.hid d0
  have D1 := Lib.hid d1
  have D2 := Lib.hid d2
  have D3 := Lib.hid d3
  have D4 := Lib.hid d4
  clear hb
  go_wp2_with fail
  refine (find_yes op h0 h1 _).mono ?_
  rintro e w2 ⟨rfl, hb2⟩
  rw [HROW.out]
  have hF : TR w (w2.alloc (.cells #[.string ⟨nm.toArray⟩, .string ⟨#[]⟩, .string f2, .string f3] 60)) w2.heap.size op a b c n ⟨#[]⟩ := by
    have hbq : Below w1.heap.size w1 (w2.alloc (.cells #[.string ⟨nm.toArray⟩, .string ⟨#[]⟩, .string f2, .string f3] 60)) := hb2.alloc hb2.size _
    have st : ∀ (p : Addr) (u : Value), w1.cell? p = some u → (w2.alloc (.cells #[.string ⟨nm.toArray⟩, .string ⟨#[]⟩, .string f2, .string f3] 60)).cell? p = some u := fun p _ hv => (hbq.cell (p := p) (World.block_lt_of_cell? w1 _ hv)).trans hv
    exact ⟨HB1.out.trans (hbq.mono HB1.out.size), st _ _ D0.out, st _ _ D1.out, st _ _ D2.out, st _ _ D3.out, st _ _ D4.out, by simp [go_sem]⟩
  have HF0 := Lib.hid hF
  clear hb2 d0 d1 d2 d3 d4 hF
  go_wp2_with fail
  obtain ⟨w3, hw3⟩ : ∃ w3, w2.alloc (.cells #[.string ⟨nm.toArray⟩, .string ⟨#[]⟩, .string f2, .string f3] 60) = w3 := ⟨_, rfl⟩
  rw [hw3] at HF0 ⊢
  clear hw3
  obtain ⟨_, e1, e2, e3, e4, e5, e6⟩ := HF0.out
  refine wp_loop_rounds 1 ?_
  rw [rounds_succ]
  go_wp2_with fail
  go_ret
  exact ⟨ret_text (by simp [textF, argT, letterOf]), HF0.out.base⟩
set_option maxRecDepth 100000 in
set_option maxHeartbeats 4000000 in
theorem rtx_1 (op : Nat) (h0 : 1 ≤ op) (h1 : op ≤ 36) (nm : List UInt8) (f2 f3 : ByteArray) (a b c n : Int) (hc : chkOf op a b c n = 0) (hnl : nm.length ≤ 20) (w : World)
    (hrow : rowV op = .agg #[.string ⟨nm.toArray⟩, .string ⟨#[97]⟩, .string f2, .string f3]) :
    Calls Tryd.prog 12 #[.agg #[.int .i64 op, .int .i64 a, .int .i64 b, .int .i64 c, .int .i64 n]] w fun e w' => e = .returned (.string ⟨(textF nm [97] a b c n).toArray⟩) ∧ Below w.heap.size w w' := by
  have HROW := Lib.hid hrow
  obtain ⟨⟨ha0, ha1⟩, ⟨hb0, hb1⟩, ⟨hc0, hc1⟩, hn0, hn1⟩ := chk_bounds (by rw [← chkOf_yes h0 h1]; exact hc)
  have hla := itoa_len (v := a) (by omega) (by omega)
  have hlb := itoa_len (v := b) (by omega) (by omega)
  have hlc := itoa_len (v := c) (by omega) (by omega)
  have hln := itoa_len (v := n) (by omega) (by omega)
  clear hrow
  go_enter Tryd.func12, Tryd.ntmps12
  go_wp2_with fail
  refine (refcheck_any op a b c n _).mono ?_
  rintro e w1 ⟨rfl, hb⟩
  rw [hc]
  obtain ⟨d0, d1, d2, d3, d4⟩ := ins_cells hb
  have HB1 := Lib.hid (((Below.refl w.heap.size w).alloc (Nat.le_refl _) _).trans (hb.mono (by simp)))
  have D0 := Lib.hid d0
  have D1 := Lib.hid d1
  have D2 := Lib.hid d2
  have D3 := Lib.hid d3
  have D4 := Lib.hid d4
  clear hb
  go_wp2_with fail
  refine (find_yes op h0 h1 _).mono ?_
  rintro e w2 ⟨rfl, hb2⟩
  rw [HROW.out]
  have hF : TR w (w2.alloc (.cells #[.string ⟨nm.toArray⟩, .string ⟨#[97]⟩, .string f2, .string f3] 60)) w2.heap.size op a b c n ⟨#[97]⟩ := by
    have hbq : Below w1.heap.size w1 (w2.alloc (.cells #[.string ⟨nm.toArray⟩, .string ⟨#[97]⟩, .string f2, .string f3] 60)) := hb2.alloc hb2.size _
    have st : ∀ (p : Addr) (u : Value), w1.cell? p = some u → (w2.alloc (.cells #[.string ⟨nm.toArray⟩, .string ⟨#[97]⟩, .string f2, .string f3] 60)).cell? p = some u := fun p _ hv => (hbq.cell (p := p) (World.block_lt_of_cell? w1 _ hv)).trans hv
    exact ⟨HB1.out.trans (hbq.mono HB1.out.size), st _ _ D0.out, st _ _ D1.out, st _ _ D2.out, st _ _ D3.out, st _ _ D4.out, by simp [go_sem]⟩
  have HF0 := Lib.hid hF
  clear hb2 d0 d1 d2 d3 d4 hF
  go_wp2_with fail
  obtain ⟨w3, hw3⟩ : ∃ w3, w2.alloc (.cells #[.string ⟨nm.toArray⟩, .string ⟨#[97]⟩, .string f2, .string f3] 60) = w3 := ⟨_, rfl⟩
  rw [hw3] at HF0 ⊢
  clear hw3
  obtain ⟨_, e1, e2, e3, e4, e5, e6⟩ := HF0.out
  refine wp_loop_rounds 2 ?_
  rw [rounds_succ]
  go_wp2_with fail
  obtain ⟨Y0, hY0⟩ : ∃ Y, (⟨nm.toArray⟩ ++ ⟨#[32]⟩ ++ ⟨#[114]⟩ : ByteArray) = Y := ⟨_, rfl⟩
  obtain ⟨T0, hT0⟩ : ∃ T, (⟨(Lib.itoa a).toArray⟩ : ByteArray) = T := ⟨_, rfl⟩
  rw [hY0]
  have hYs0 : Y0.size ≤ 22 := by rw [← hY0, ByteArray.size_append, ByteArray.size_append]; show nm.toArray.size + 1 + 1 ≤ 22; rw [List.size_toArray]; omega
  have hTs0 : T0.size ≤ 20 := by rw [← hT0]; show (Lib.itoa a).toArray.size ≤ 20; rw [List.size_toArray]; omega
  have hsum0 : Y0.size + T0.size ≤ 9223372036854775807 := by omega
  have hsum20 : ¬ (9223372036854775807 < Y0.size + T0.size) := by omega
  have hsum30 : ¬ (Y0.size + T0.size > 9223372036854775807) := by omega
  have hrun0 : ∀ W : World, (Op.stringOp .add Y0 T0).run Tryd.prog W = .ok (.string (Y0 ++ T0)) W := fun W => run_string_add_sum W Y0 T0 hsum0
  have HY0 := Lib.hid hY0
  have HT0 := Lib.hid hT0
  clear hY0 hT0
  have hyd0 := TR.below HF0.out (Below.refl _ _).drew
  go_region_held3 (fun W => W.cell? ⟨w.heap.size, 0, none⟩ = some (.int .i64 op) ∧ W.cell? ⟨w.heap.size, 1, none⟩ = some (.int .i64 a) ∧ W.cell? ⟨w.heap.size, 2, none⟩ = some (.int .i64 b) ∧ W.cell? ⟨w.heap.size, 3, none⟩ = some (.int .i64 c) ∧ W.cell? ⟨w.heap.size, 4, none⟩ = some (.int .i64 n) ∧ W.cell? ⟨w2.heap.size, 1, none⟩ = some (.string ⟨#[97]⟩) ∧ TR w W w2.heap.size op a b c n ⟨#[97]⟩)
    (first | assumption | exact tr_s (by assumption))
    (first
      | (go_at_call 32; refine (letter_to op a b c n 97 a (by simp [letterOf]) _).mono ?_; rintro e wl0 ⟨rfl, hbl0⟩; have hyl0 := TR.below (tr_of (by assumption)) hbl0)
      | (go_at_call 31; refine (reftext_to a (by omega) (by omega) T0 HT0.out _).mono ?_; rintro e wt0 ⟨rfl, hbt0⟩; have hyt0 := TR.below (tr_of (by assumption)) hbt0))
  have HF1 := Lib.hid hyt0
  obtain ⟨_, e1, e2, e3, e4, e5, e6⟩ := HF1.out
  clear hyd0 hyl0 hyt0 hbl0 hbt0
  go_wp2_with fail
  rw [rounds_succ]
  go_wp2_with fail
  go_ret
  have zT0 := HT0.out
  subst zT0
  have zY0 := HY0.out
  subst zY0
  exact ⟨ret_text (by simp [textF, argT, letterOf]), HF1.out.base⟩
set_option maxRecDepth 100000 in
set_option maxHeartbeats 4000000 in
theorem rtx_3 (op : Nat) (h0 : 1 ≤ op) (h1 : op ≤ 36) (nm : List UInt8) (f2 f3 : ByteArray) (a b c n : Int) (hc : chkOf op a b c n = 0) (hnl : nm.length ≤ 20) (w : World)
    (hrow : rowV op = .agg #[.string ⟨nm.toArray⟩, .string ⟨#[97, 98]⟩, .string f2, .string f3]) :
    Calls Tryd.prog 12 #[.agg #[.int .i64 op, .int .i64 a, .int .i64 b, .int .i64 c, .int .i64 n]] w fun e w' => e = .returned (.string ⟨(textF nm [97, 98] a b c n).toArray⟩) ∧ Below w.heap.size w w' := by
  have HROW := Lib.hid hrow
  obtain ⟨⟨ha0, ha1⟩, ⟨hb0, hb1⟩, ⟨hc0, hc1⟩, hn0, hn1⟩ := chk_bounds (by rw [← chkOf_yes h0 h1]; exact hc)
  have hla := itoa_len (v := a) (by omega) (by omega)
  have hlb := itoa_len (v := b) (by omega) (by omega)
  have hlc := itoa_len (v := c) (by omega) (by omega)
  have hln := itoa_len (v := n) (by omega) (by omega)
  clear hrow
  go_enter Tryd.func12, Tryd.ntmps12
  go_wp2_with fail
  refine (refcheck_any op a b c n _).mono ?_
  rintro e w1 ⟨rfl, hb⟩
  rw [hc]
  obtain ⟨d0, d1, d2, d3, d4⟩ := ins_cells hb
  have HB1 := Lib.hid (((Below.refl w.heap.size w).alloc (Nat.le_refl _) _).trans (hb.mono (by simp)))
  have D0 := Lib.hid d0
  have D1 := Lib.hid d1
  have D2 := Lib.hid d2
  have D3 := Lib.hid d3
  have D4 := Lib.hid d4
  clear hb
  go_wp2_with fail
  refine (find_yes op h0 h1 _).mono ?_
  rintro e w2 ⟨rfl, hb2⟩
  rw [HROW.out]
  have hF : TR w (w2.alloc (.cells #[.string ⟨nm.toArray⟩, .string ⟨#[97, 98]⟩, .string f2, .string f3] 60)) w2.heap.size op a b c n ⟨#[97, 98]⟩ := by
    have hbq : Below w1.heap.size w1 (w2.alloc (.cells #[.string ⟨nm.toArray⟩, .string ⟨#[97, 98]⟩, .string f2, .string f3] 60)) := hb2.alloc hb2.size _
    have st : ∀ (p : Addr) (u : Value), w1.cell? p = some u → (w2.alloc (.cells #[.string ⟨nm.toArray⟩, .string ⟨#[97, 98]⟩, .string f2, .string f3] 60)).cell? p = some u := fun p _ hv => (hbq.cell (p := p) (World.block_lt_of_cell? w1 _ hv)).trans hv
    exact ⟨HB1.out.trans (hbq.mono HB1.out.size), st _ _ D0.out, st _ _ D1.out, st _ _ D2.out, st _ _ D3.out, st _ _ D4.out, by simp [go_sem]⟩
  have HF0 := Lib.hid hF
  clear hb2 d0 d1 d2 d3 d4 hF
  go_wp2_with fail
  obtain ⟨w3, hw3⟩ : ∃ w3, w2.alloc (.cells #[.string ⟨nm.toArray⟩, .string ⟨#[97, 98]⟩, .string f2, .string f3] 60) = w3 := ⟨_, rfl⟩
  rw [hw3] at HF0 ⊢
  clear hw3
  obtain ⟨_, e1, e2, e3, e4, e5, e6⟩ := HF0.out
  refine wp_loop_rounds 3 ?_
  rw [rounds_succ]
  go_wp2_with fail
  obtain ⟨Y0, hY0⟩ : ∃ Y, (⟨nm.toArray⟩ ++ ⟨#[32]⟩ ++ ⟨#[114]⟩ : ByteArray) = Y := ⟨_, rfl⟩
  obtain ⟨T0, hT0⟩ : ∃ T, (⟨(Lib.itoa a).toArray⟩ : ByteArray) = T := ⟨_, rfl⟩
  rw [hY0]
  have hYs0 : Y0.size ≤ 22 := by rw [← hY0, ByteArray.size_append, ByteArray.size_append]; show nm.toArray.size + 1 + 1 ≤ 22; rw [List.size_toArray]; omega
  have hTs0 : T0.size ≤ 20 := by rw [← hT0]; show (Lib.itoa a).toArray.size ≤ 20; rw [List.size_toArray]; omega
  have hsum0 : Y0.size + T0.size ≤ 9223372036854775807 := by omega
  have hsum20 : ¬ (9223372036854775807 < Y0.size + T0.size) := by omega
  have hsum30 : ¬ (Y0.size + T0.size > 9223372036854775807) := by omega
  have hrun0 : ∀ W : World, (Op.stringOp .add Y0 T0).run Tryd.prog W = .ok (.string (Y0 ++ T0)) W := fun W => run_string_add_sum W Y0 T0 hsum0
  have HY0 := Lib.hid hY0
  have HT0 := Lib.hid hT0
  clear hY0 hT0
  have hyd0 := TR.below HF0.out (Below.refl _ _).drew
  go_region_held3 (fun W => W.cell? ⟨w.heap.size, 0, none⟩ = some (.int .i64 op) ∧ W.cell? ⟨w.heap.size, 1, none⟩ = some (.int .i64 a) ∧ W.cell? ⟨w.heap.size, 2, none⟩ = some (.int .i64 b) ∧ W.cell? ⟨w.heap.size, 3, none⟩ = some (.int .i64 c) ∧ W.cell? ⟨w.heap.size, 4, none⟩ = some (.int .i64 n) ∧ W.cell? ⟨w2.heap.size, 1, none⟩ = some (.string ⟨#[97, 98]⟩) ∧ TR w W w2.heap.size op a b c n ⟨#[97, 98]⟩)
    (first | assumption | exact tr_s (by assumption))
    (first
      | (go_at_call 32; refine (letter_to op a b c n 97 a (by simp [letterOf]) _).mono ?_; rintro e wl0 ⟨rfl, hbl0⟩; have hyl0 := TR.below (tr_of (by assumption)) hbl0)
      | (go_at_call 31; refine (reftext_to a (by omega) (by omega) T0 HT0.out _).mono ?_; rintro e wt0 ⟨rfl, hbt0⟩; have hyt0 := TR.below (tr_of (by assumption)) hbt0))
  have HF1 := Lib.hid hyt0
  obtain ⟨_, e1, e2, e3, e4, e5, e6⟩ := HF1.out
  clear hyd0 hyl0 hyt0 hbl0 hbt0
  go_wp2_with fail
  rw [rounds_succ]
  go_wp2_with fail
  obtain ⟨Y1, hY1⟩ : ∃ Y, (Y0 ++ T0 ++ ⟨#[32]⟩ ++ ⟨#[114]⟩ : ByteArray) = Y := ⟨_, rfl⟩
  obtain ⟨T1, hT1⟩ : ∃ T, (⟨(Lib.itoa b).toArray⟩ : ByteArray) = T := ⟨_, rfl⟩
  rw [hY1]
  have hYs1 : Y1.size ≤ 44 := by rw [← hY1, ByteArray.size_append, ByteArray.size_append, ByteArray.size_append]; show Y0.size + T0.size + 1 + 1 ≤ 44; omega
  have hTs1 : T1.size ≤ 20 := by rw [← hT1]; show (Lib.itoa b).toArray.size ≤ 20; rw [List.size_toArray]; omega
  have hsum1 : Y1.size + T1.size ≤ 9223372036854775807 := by omega
  have hsum21 : ¬ (9223372036854775807 < Y1.size + T1.size) := by omega
  have hsum31 : ¬ (Y1.size + T1.size > 9223372036854775807) := by omega
  have hrun1 : ∀ W : World, (Op.stringOp .add Y1 T1).run Tryd.prog W = .ok (.string (Y1 ++ T1)) W := fun W => run_string_add_sum W Y1 T1 hsum1
  have HY1 := Lib.hid hY1
  have HT1 := Lib.hid hT1
  clear hY1 hT1
  have hyd1 := TR.below HF1.out (Below.refl _ _).drew
  go_region_held3 (fun W => W.cell? ⟨w.heap.size, 0, none⟩ = some (.int .i64 op) ∧ W.cell? ⟨w.heap.size, 1, none⟩ = some (.int .i64 a) ∧ W.cell? ⟨w.heap.size, 2, none⟩ = some (.int .i64 b) ∧ W.cell? ⟨w.heap.size, 3, none⟩ = some (.int .i64 c) ∧ W.cell? ⟨w.heap.size, 4, none⟩ = some (.int .i64 n) ∧ W.cell? ⟨w2.heap.size, 1, none⟩ = some (.string ⟨#[97, 98]⟩) ∧ TR w W w2.heap.size op a b c n ⟨#[97, 98]⟩)
    (first | assumption | exact tr_s (by assumption))
    (first
      | (go_at_call 32; refine (letter_to op a b c n 98 b (by simp [letterOf]) _).mono ?_; rintro e wl1 ⟨rfl, hbl1⟩; have hyl1 := TR.below (tr_of (by assumption)) hbl1)
      | (go_at_call 31; refine (reftext_to b (by omega) (by omega) T1 HT1.out _).mono ?_; rintro e wt1 ⟨rfl, hbt1⟩; have hyt1 := TR.below (tr_of (by assumption)) hbt1))
  have HF2 := Lib.hid hyt1
  obtain ⟨_, e1, e2, e3, e4, e5, e6⟩ := HF2.out
  clear hyd1 hyl1 hyt1 hbl1 hbt1
  go_wp2_with fail
  rw [rounds_succ]
  go_wp2_with fail
  go_ret
  have zT1 := HT1.out
  subst zT1
  have zY1 := HY1.out
  subst zY1
  have zT0 := HT0.out
  subst zT0
  have zY0 := HY0.out
  subst zY0
  exact ⟨ret_text (by simp [textF, argT, letterOf]), HF2.out.base⟩
set_option maxRecDepth 100000 in
set_option maxHeartbeats 4000000 in
theorem rtx_7 (op : Nat) (h0 : 1 ≤ op) (h1 : op ≤ 36) (nm : List UInt8) (f2 f3 : ByteArray) (a b c n : Int) (hc : chkOf op a b c n = 0) (hnl : nm.length ≤ 20) (w : World)
    (hrow : rowV op = .agg #[.string ⟨nm.toArray⟩, .string ⟨#[97, 98, 99]⟩, .string f2, .string f3]) :
    Calls Tryd.prog 12 #[.agg #[.int .i64 op, .int .i64 a, .int .i64 b, .int .i64 c, .int .i64 n]] w fun e w' => e = .returned (.string ⟨(textF nm [97, 98, 99] a b c n).toArray⟩) ∧ Below w.heap.size w w' := by
  have HROW := Lib.hid hrow
  obtain ⟨⟨ha0, ha1⟩, ⟨hb0, hb1⟩, ⟨hc0, hc1⟩, hn0, hn1⟩ := chk_bounds (by rw [← chkOf_yes h0 h1]; exact hc)
  have hla := itoa_len (v := a) (by omega) (by omega)
  have hlb := itoa_len (v := b) (by omega) (by omega)
  have hlc := itoa_len (v := c) (by omega) (by omega)
  have hln := itoa_len (v := n) (by omega) (by omega)
  clear hrow
  go_enter Tryd.func12, Tryd.ntmps12
  go_wp2_with fail
  refine (refcheck_any op a b c n _).mono ?_
  rintro e w1 ⟨rfl, hb⟩
  rw [hc]
  obtain ⟨d0, d1, d2, d3, d4⟩ := ins_cells hb
  have HB1 := Lib.hid (((Below.refl w.heap.size w).alloc (Nat.le_refl _) _).trans (hb.mono (by simp)))
  have D0 := Lib.hid d0
  have D1 := Lib.hid d1
  have D2 := Lib.hid d2
  have D3 := Lib.hid d3
  have D4 := Lib.hid d4
  clear hb
  go_wp2_with fail
  refine (find_yes op h0 h1 _).mono ?_
  rintro e w2 ⟨rfl, hb2⟩
  rw [HROW.out]
  have hF : TR w (w2.alloc (.cells #[.string ⟨nm.toArray⟩, .string ⟨#[97, 98, 99]⟩, .string f2, .string f3] 60)) w2.heap.size op a b c n ⟨#[97, 98, 99]⟩ := by
    have hbq : Below w1.heap.size w1 (w2.alloc (.cells #[.string ⟨nm.toArray⟩, .string ⟨#[97, 98, 99]⟩, .string f2, .string f3] 60)) := hb2.alloc hb2.size _
    have st : ∀ (p : Addr) (u : Value), w1.cell? p = some u → (w2.alloc (.cells #[.string ⟨nm.toArray⟩, .string ⟨#[97, 98, 99]⟩, .string f2, .string f3] 60)).cell? p = some u := fun p _ hv => (hbq.cell (p := p) (World.block_lt_of_cell? w1 _ hv)).trans hv
    exact ⟨HB1.out.trans (hbq.mono HB1.out.size), st _ _ D0.out, st _ _ D1.out, st _ _ D2.out, st _ _ D3.out, st _ _ D4.out, by simp [go_sem]⟩
  have HF0 := Lib.hid hF
  clear hb2 d0 d1 d2 d3 d4 hF
  go_wp2_with fail
  obtain ⟨w3, hw3⟩ : ∃ w3, w2.alloc (.cells #[.string ⟨nm.toArray⟩, .string ⟨#[97, 98, 99]⟩, .string f2, .string f3] 60) = w3 := ⟨_, rfl⟩
  rw [hw3] at HF0 ⊢
  clear hw3
  obtain ⟨_, e1, e2, e3, e4, e5, e6⟩ := HF0.out
  refine wp_loop_rounds 4 ?_
  rw [rounds_succ]
  go_wp2_with fail
  obtain ⟨Y0, hY0⟩ : ∃ Y, (⟨nm.toArray⟩ ++ ⟨#[32]⟩ ++ ⟨#[114]⟩ : ByteArray) = Y := ⟨_, rfl⟩
  obtain ⟨T0, hT0⟩ : ∃ T, (⟨(Lib.itoa a).toArray⟩ : ByteArray) = T := ⟨_, rfl⟩
  rw [hY0]
  have hYs0 : Y0.size ≤ 22 := by rw [← hY0, ByteArray.size_append, ByteArray.size_append]; show nm.toArray.size + 1 + 1 ≤ 22; rw [List.size_toArray]; omega
  have hTs0 : T0.size ≤ 20 := by rw [← hT0]; show (Lib.itoa a).toArray.size ≤ 20; rw [List.size_toArray]; omega
  have hsum0 : Y0.size + T0.size ≤ 9223372036854775807 := by omega
  have hsum20 : ¬ (9223372036854775807 < Y0.size + T0.size) := by omega
  have hsum30 : ¬ (Y0.size + T0.size > 9223372036854775807) := by omega
  have hrun0 : ∀ W : World, (Op.stringOp .add Y0 T0).run Tryd.prog W = .ok (.string (Y0 ++ T0)) W := fun W => run_string_add_sum W Y0 T0 hsum0
  have HY0 := Lib.hid hY0
  have HT0 := Lib.hid hT0
  clear hY0 hT0
  have hyd0 := TR.below HF0.out (Below.refl _ _).drew
  go_region_held3 (fun W => W.cell? ⟨w.heap.size, 0, none⟩ = some (.int .i64 op) ∧ W.cell? ⟨w.heap.size, 1, none⟩ = some (.int .i64 a) ∧ W.cell? ⟨w.heap.size, 2, none⟩ = some (.int .i64 b) ∧ W.cell? ⟨w.heap.size, 3, none⟩ = some (.int .i64 c) ∧ W.cell? ⟨w.heap.size, 4, none⟩ = some (.int .i64 n) ∧ W.cell? ⟨w2.heap.size, 1, none⟩ = some (.string ⟨#[97, 98, 99]⟩) ∧ TR w W w2.heap.size op a b c n ⟨#[97, 98, 99]⟩)
    (first | assumption | exact tr_s (by assumption))
    (first
      | (go_at_call 32; refine (letter_to op a b c n 97 a (by simp [letterOf]) _).mono ?_; rintro e wl0 ⟨rfl, hbl0⟩; have hyl0 := TR.below (tr_of (by assumption)) hbl0)
      | (go_at_call 31; refine (reftext_to a (by omega) (by omega) T0 HT0.out _).mono ?_; rintro e wt0 ⟨rfl, hbt0⟩; have hyt0 := TR.below (tr_of (by assumption)) hbt0))
  have HF1 := Lib.hid hyt0
  obtain ⟨_, e1, e2, e3, e4, e5, e6⟩ := HF1.out
  clear hyd0 hyl0 hyt0 hbl0 hbt0
  go_wp2_with fail
  rw [rounds_succ]
  go_wp2_with fail
  obtain ⟨Y1, hY1⟩ : ∃ Y, (Y0 ++ T0 ++ ⟨#[32]⟩ ++ ⟨#[114]⟩ : ByteArray) = Y := ⟨_, rfl⟩
  obtain ⟨T1, hT1⟩ : ∃ T, (⟨(Lib.itoa b).toArray⟩ : ByteArray) = T := ⟨_, rfl⟩
  rw [hY1]
  have hYs1 : Y1.size ≤ 44 := by rw [← hY1, ByteArray.size_append, ByteArray.size_append, ByteArray.size_append]; show Y0.size + T0.size + 1 + 1 ≤ 44; omega
  have hTs1 : T1.size ≤ 20 := by rw [← hT1]; show (Lib.itoa b).toArray.size ≤ 20; rw [List.size_toArray]; omega
  have hsum1 : Y1.size + T1.size ≤ 9223372036854775807 := by omega
  have hsum21 : ¬ (9223372036854775807 < Y1.size + T1.size) := by omega
  have hsum31 : ¬ (Y1.size + T1.size > 9223372036854775807) := by omega
  have hrun1 : ∀ W : World, (Op.stringOp .add Y1 T1).run Tryd.prog W = .ok (.string (Y1 ++ T1)) W := fun W => run_string_add_sum W Y1 T1 hsum1
  have HY1 := Lib.hid hY1
  have HT1 := Lib.hid hT1
  clear hY1 hT1
  have hyd1 := TR.below HF1.out (Below.refl _ _).drew
  go_region_held3 (fun W => W.cell? ⟨w.heap.size, 0, none⟩ = some (.int .i64 op) ∧ W.cell? ⟨w.heap.size, 1, none⟩ = some (.int .i64 a) ∧ W.cell? ⟨w.heap.size, 2, none⟩ = some (.int .i64 b) ∧ W.cell? ⟨w.heap.size, 3, none⟩ = some (.int .i64 c) ∧ W.cell? ⟨w.heap.size, 4, none⟩ = some (.int .i64 n) ∧ W.cell? ⟨w2.heap.size, 1, none⟩ = some (.string ⟨#[97, 98, 99]⟩) ∧ TR w W w2.heap.size op a b c n ⟨#[97, 98, 99]⟩)
    (first | assumption | exact tr_s (by assumption))
    (first
      | (go_at_call 32; refine (letter_to op a b c n 98 b (by simp [letterOf]) _).mono ?_; rintro e wl1 ⟨rfl, hbl1⟩; have hyl1 := TR.below (tr_of (by assumption)) hbl1)
      | (go_at_call 31; refine (reftext_to b (by omega) (by omega) T1 HT1.out _).mono ?_; rintro e wt1 ⟨rfl, hbt1⟩; have hyt1 := TR.below (tr_of (by assumption)) hbt1))
  have HF2 := Lib.hid hyt1
  obtain ⟨_, e1, e2, e3, e4, e5, e6⟩ := HF2.out
  clear hyd1 hyl1 hyt1 hbl1 hbt1
  go_wp2_with fail
  rw [rounds_succ]
  go_wp2_with fail
  obtain ⟨Y2, hY2⟩ : ∃ Y, (Y1 ++ T1 ++ ⟨#[32]⟩ ++ ⟨#[114]⟩ : ByteArray) = Y := ⟨_, rfl⟩
  obtain ⟨T2, hT2⟩ : ∃ T, (⟨(Lib.itoa c).toArray⟩ : ByteArray) = T := ⟨_, rfl⟩
  rw [hY2]
  have hYs2 : Y2.size ≤ 66 := by rw [← hY2, ByteArray.size_append, ByteArray.size_append, ByteArray.size_append]; show Y1.size + T1.size + 1 + 1 ≤ 66; omega
  have hTs2 : T2.size ≤ 20 := by rw [← hT2]; show (Lib.itoa c).toArray.size ≤ 20; rw [List.size_toArray]; omega
  have hsum2 : Y2.size + T2.size ≤ 9223372036854775807 := by omega
  have hsum22 : ¬ (9223372036854775807 < Y2.size + T2.size) := by omega
  have hsum32 : ¬ (Y2.size + T2.size > 9223372036854775807) := by omega
  have hrun2 : ∀ W : World, (Op.stringOp .add Y2 T2).run Tryd.prog W = .ok (.string (Y2 ++ T2)) W := fun W => run_string_add_sum W Y2 T2 hsum2
  have HY2 := Lib.hid hY2
  have HT2 := Lib.hid hT2
  clear hY2 hT2
  have hyd2 := TR.below HF2.out (Below.refl _ _).drew
  go_region_held3 (fun W => W.cell? ⟨w.heap.size, 0, none⟩ = some (.int .i64 op) ∧ W.cell? ⟨w.heap.size, 1, none⟩ = some (.int .i64 a) ∧ W.cell? ⟨w.heap.size, 2, none⟩ = some (.int .i64 b) ∧ W.cell? ⟨w.heap.size, 3, none⟩ = some (.int .i64 c) ∧ W.cell? ⟨w.heap.size, 4, none⟩ = some (.int .i64 n) ∧ W.cell? ⟨w2.heap.size, 1, none⟩ = some (.string ⟨#[97, 98, 99]⟩) ∧ TR w W w2.heap.size op a b c n ⟨#[97, 98, 99]⟩)
    (first | assumption | exact tr_s (by assumption))
    (first
      | (go_at_call 32; refine (letter_to op a b c n 99 c (by simp [letterOf]) _).mono ?_; rintro e wl2 ⟨rfl, hbl2⟩; have hyl2 := TR.below (tr_of (by assumption)) hbl2)
      | (go_at_call 31; refine (reftext_to c (by omega) (by omega) T2 HT2.out _).mono ?_; rintro e wt2 ⟨rfl, hbt2⟩; have hyt2 := TR.below (tr_of (by assumption)) hbt2))
  have HF3 := Lib.hid hyt2
  obtain ⟨_, e1, e2, e3, e4, e5, e6⟩ := HF3.out
  clear hyd2 hyl2 hyt2 hbl2 hbt2
  go_wp2_with fail
  rw [rounds_succ]
  go_wp2_with fail
  go_ret
  have zT2 := HT2.out
  subst zT2
  have zY2 := HY2.out
  subst zY2
  have zT1 := HT1.out
  subst zT1
  have zY1 := HY1.out
  subst zY1
  have zT0 := HT0.out
  subst zT0
  have zY0 := HY0.out
  subst zY0
  exact ⟨ret_text (by simp [textF, argT, letterOf]), HF3.out.base⟩
set_option maxRecDepth 100000 in
set_option maxHeartbeats 4000000 in
theorem rtx_8 (op : Nat) (h0 : 1 ≤ op) (h1 : op ≤ 36) (nm : List UInt8) (f2 f3 : ByteArray) (a b c n : Int) (hc : chkOf op a b c n = 0) (hnl : nm.length ≤ 20) (w : World)
    (hrow : rowV op = .agg #[.string ⟨nm.toArray⟩, .string ⟨#[110]⟩, .string f2, .string f3]) :
    Calls Tryd.prog 12 #[.agg #[.int .i64 op, .int .i64 a, .int .i64 b, .int .i64 c, .int .i64 n]] w fun e w' => e = .returned (.string ⟨(textF nm [110] a b c n).toArray⟩) ∧ Below w.heap.size w w' := by
  have HROW := Lib.hid hrow
  obtain ⟨⟨ha0, ha1⟩, ⟨hb0, hb1⟩, ⟨hc0, hc1⟩, hn0, hn1⟩ := chk_bounds (by rw [← chkOf_yes h0 h1]; exact hc)
  have hla := itoa_len (v := a) (by omega) (by omega)
  have hlb := itoa_len (v := b) (by omega) (by omega)
  have hlc := itoa_len (v := c) (by omega) (by omega)
  have hln := itoa_len (v := n) (by omega) (by omega)
  clear hrow
  go_enter Tryd.func12, Tryd.ntmps12
  go_wp2_with fail
  refine (refcheck_any op a b c n _).mono ?_
  rintro e w1 ⟨rfl, hb⟩
  rw [hc]
  obtain ⟨d0, d1, d2, d3, d4⟩ := ins_cells hb
  have HB1 := Lib.hid (((Below.refl w.heap.size w).alloc (Nat.le_refl _) _).trans (hb.mono (by simp)))
  have D0 := Lib.hid d0
  have D1 := Lib.hid d1
  have D2 := Lib.hid d2
  have D3 := Lib.hid d3
  have D4 := Lib.hid d4
  clear hb
  go_wp2_with fail
  refine (find_yes op h0 h1 _).mono ?_
  rintro e w2 ⟨rfl, hb2⟩
  rw [HROW.out]
  have hF : TR w (w2.alloc (.cells #[.string ⟨nm.toArray⟩, .string ⟨#[110]⟩, .string f2, .string f3] 60)) w2.heap.size op a b c n ⟨#[110]⟩ := by
    have hbq : Below w1.heap.size w1 (w2.alloc (.cells #[.string ⟨nm.toArray⟩, .string ⟨#[110]⟩, .string f2, .string f3] 60)) := hb2.alloc hb2.size _
    have st : ∀ (p : Addr) (u : Value), w1.cell? p = some u → (w2.alloc (.cells #[.string ⟨nm.toArray⟩, .string ⟨#[110]⟩, .string f2, .string f3] 60)).cell? p = some u := fun p _ hv => (hbq.cell (p := p) (World.block_lt_of_cell? w1 _ hv)).trans hv
    exact ⟨HB1.out.trans (hbq.mono HB1.out.size), st _ _ D0.out, st _ _ D1.out, st _ _ D2.out, st _ _ D3.out, st _ _ D4.out, by simp [go_sem]⟩
  have HF0 := Lib.hid hF
  clear hb2 d0 d1 d2 d3 d4 hF
  go_wp2_with fail
  obtain ⟨w3, hw3⟩ : ∃ w3, w2.alloc (.cells #[.string ⟨nm.toArray⟩, .string ⟨#[110]⟩, .string f2, .string f3] 60) = w3 := ⟨_, rfl⟩
  rw [hw3] at HF0 ⊢
  clear hw3
  obtain ⟨_, e1, e2, e3, e4, e5, e6⟩ := HF0.out
  refine wp_loop_rounds 2 ?_
  rw [rounds_succ]
  go_wp2_with fail
  obtain ⟨Y0, hY0⟩ : ∃ Y, (⟨nm.toArray⟩ ++ ⟨#[32]⟩ : ByteArray) = Y := ⟨_, rfl⟩
  obtain ⟨T0, hT0⟩ : ∃ T, (⟨(Lib.itoa n).toArray⟩ : ByteArray) = T := ⟨_, rfl⟩
  rw [hY0]
  have hYs0 : Y0.size ≤ 22 := by rw [← hY0, ByteArray.size_append]; show nm.toArray.size + 1 ≤ 22; rw [List.size_toArray]; omega
  have hTs0 : T0.size ≤ 20 := by rw [← hT0]; show (Lib.itoa n).toArray.size ≤ 20; rw [List.size_toArray]; omega
  have hsum0 : Y0.size + T0.size ≤ 9223372036854775807 := by omega
  have hsum20 : ¬ (9223372036854775807 < Y0.size + T0.size) := by omega
  have hsum30 : ¬ (Y0.size + T0.size > 9223372036854775807) := by omega
  have hrun0 : ∀ W : World, (Op.stringOp .add Y0 T0).run Tryd.prog W = .ok (.string (Y0 ++ T0)) W := fun W => run_string_add_sum W Y0 T0 hsum0
  have HY0 := Lib.hid hY0
  have HT0 := Lib.hid hT0
  clear hY0 hT0
  have hyd0 := TR.below HF0.out (Below.refl _ _).drew
  go_region_held3 (fun W => W.cell? ⟨w.heap.size, 0, none⟩ = some (.int .i64 op) ∧ W.cell? ⟨w.heap.size, 1, none⟩ = some (.int .i64 a) ∧ W.cell? ⟨w.heap.size, 2, none⟩ = some (.int .i64 b) ∧ W.cell? ⟨w.heap.size, 3, none⟩ = some (.int .i64 c) ∧ W.cell? ⟨w.heap.size, 4, none⟩ = some (.int .i64 n) ∧ W.cell? ⟨w2.heap.size, 1, none⟩ = some (.string ⟨#[110]⟩) ∧ TR w W w2.heap.size op a b c n ⟨#[110]⟩)
    (first | assumption | exact tr_s (by assumption))
    (first
      | (go_at_call 32; refine (letter_to op a b c n 110 n (by simp [letterOf]) _).mono ?_; rintro e wl0 ⟨rfl, hbl0⟩; have hyl0 := TR.below (tr_of (by assumption)) hbl0)
      | (go_at_call 31; refine (reftext_to n (by omega) (by omega) T0 HT0.out _).mono ?_; rintro e wt0 ⟨rfl, hbt0⟩; have hyt0 := TR.below (tr_of (by assumption)) hbt0))
  have HF1 := Lib.hid hyt0
  obtain ⟨_, e1, e2, e3, e4, e5, e6⟩ := HF1.out
  clear hyd0 hyl0 hyt0 hbl0 hbt0
  go_wp2_with fail
  rw [rounds_succ]
  go_wp2_with fail
  go_ret
  have zT0 := HT0.out
  subst zT0
  have zY0 := HY0.out
  subst zY0
  exact ⟨ret_text (by simp [textF, argT, letterOf]), HF1.out.base⟩
set_option maxRecDepth 100000 in
set_option maxHeartbeats 4000000 in
theorem rtx_9 (op : Nat) (h0 : 1 ≤ op) (h1 : op ≤ 36) (nm : List UInt8) (f2 f3 : ByteArray) (a b c n : Int) (hc : chkOf op a b c n = 0) (hnl : nm.length ≤ 20) (w : World)
    (hrow : rowV op = .agg #[.string ⟨nm.toArray⟩, .string ⟨#[97, 110]⟩, .string f2, .string f3]) :
    Calls Tryd.prog 12 #[.agg #[.int .i64 op, .int .i64 a, .int .i64 b, .int .i64 c, .int .i64 n]] w fun e w' => e = .returned (.string ⟨(textF nm [97, 110] a b c n).toArray⟩) ∧ Below w.heap.size w w' := by
  have HROW := Lib.hid hrow
  obtain ⟨⟨ha0, ha1⟩, ⟨hb0, hb1⟩, ⟨hc0, hc1⟩, hn0, hn1⟩ := chk_bounds (by rw [← chkOf_yes h0 h1]; exact hc)
  have hla := itoa_len (v := a) (by omega) (by omega)
  have hlb := itoa_len (v := b) (by omega) (by omega)
  have hlc := itoa_len (v := c) (by omega) (by omega)
  have hln := itoa_len (v := n) (by omega) (by omega)
  clear hrow
  go_enter Tryd.func12, Tryd.ntmps12
  go_wp2_with fail
  refine (refcheck_any op a b c n _).mono ?_
  rintro e w1 ⟨rfl, hb⟩
  rw [hc]
  obtain ⟨d0, d1, d2, d3, d4⟩ := ins_cells hb
  have HB1 := Lib.hid (((Below.refl w.heap.size w).alloc (Nat.le_refl _) _).trans (hb.mono (by simp)))
  have D0 := Lib.hid d0
  have D1 := Lib.hid d1
  have D2 := Lib.hid d2
  have D3 := Lib.hid d3
  have D4 := Lib.hid d4
  clear hb
  go_wp2_with fail
  refine (find_yes op h0 h1 _).mono ?_
  rintro e w2 ⟨rfl, hb2⟩
  rw [HROW.out]
  have hF : TR w (w2.alloc (.cells #[.string ⟨nm.toArray⟩, .string ⟨#[97, 110]⟩, .string f2, .string f3] 60)) w2.heap.size op a b c n ⟨#[97, 110]⟩ := by
    have hbq : Below w1.heap.size w1 (w2.alloc (.cells #[.string ⟨nm.toArray⟩, .string ⟨#[97, 110]⟩, .string f2, .string f3] 60)) := hb2.alloc hb2.size _
    have st : ∀ (p : Addr) (u : Value), w1.cell? p = some u → (w2.alloc (.cells #[.string ⟨nm.toArray⟩, .string ⟨#[97, 110]⟩, .string f2, .string f3] 60)).cell? p = some u := fun p _ hv => (hbq.cell (p := p) (World.block_lt_of_cell? w1 _ hv)).trans hv
    exact ⟨HB1.out.trans (hbq.mono HB1.out.size), st _ _ D0.out, st _ _ D1.out, st _ _ D2.out, st _ _ D3.out, st _ _ D4.out, by simp [go_sem]⟩
  have HF0 := Lib.hid hF
  clear hb2 d0 d1 d2 d3 d4 hF
  go_wp2_with fail
  obtain ⟨w3, hw3⟩ : ∃ w3, w2.alloc (.cells #[.string ⟨nm.toArray⟩, .string ⟨#[97, 110]⟩, .string f2, .string f3] 60) = w3 := ⟨_, rfl⟩
  rw [hw3] at HF0 ⊢
  clear hw3
  obtain ⟨_, e1, e2, e3, e4, e5, e6⟩ := HF0.out
  refine wp_loop_rounds 3 ?_
  rw [rounds_succ]
  go_wp2_with fail
  obtain ⟨Y0, hY0⟩ : ∃ Y, (⟨nm.toArray⟩ ++ ⟨#[32]⟩ ++ ⟨#[114]⟩ : ByteArray) = Y := ⟨_, rfl⟩
  obtain ⟨T0, hT0⟩ : ∃ T, (⟨(Lib.itoa a).toArray⟩ : ByteArray) = T := ⟨_, rfl⟩
  rw [hY0]
  have hYs0 : Y0.size ≤ 22 := by rw [← hY0, ByteArray.size_append, ByteArray.size_append]; show nm.toArray.size + 1 + 1 ≤ 22; rw [List.size_toArray]; omega
  have hTs0 : T0.size ≤ 20 := by rw [← hT0]; show (Lib.itoa a).toArray.size ≤ 20; rw [List.size_toArray]; omega
  have hsum0 : Y0.size + T0.size ≤ 9223372036854775807 := by omega
  have hsum20 : ¬ (9223372036854775807 < Y0.size + T0.size) := by omega
  have hsum30 : ¬ (Y0.size + T0.size > 9223372036854775807) := by omega
  have hrun0 : ∀ W : World, (Op.stringOp .add Y0 T0).run Tryd.prog W = .ok (.string (Y0 ++ T0)) W := fun W => run_string_add_sum W Y0 T0 hsum0
  have HY0 := Lib.hid hY0
  have HT0 := Lib.hid hT0
  clear hY0 hT0
  have hyd0 := TR.below HF0.out (Below.refl _ _).drew
  go_region_held3 (fun W => W.cell? ⟨w.heap.size, 0, none⟩ = some (.int .i64 op) ∧ W.cell? ⟨w.heap.size, 1, none⟩ = some (.int .i64 a) ∧ W.cell? ⟨w.heap.size, 2, none⟩ = some (.int .i64 b) ∧ W.cell? ⟨w.heap.size, 3, none⟩ = some (.int .i64 c) ∧ W.cell? ⟨w.heap.size, 4, none⟩ = some (.int .i64 n) ∧ W.cell? ⟨w2.heap.size, 1, none⟩ = some (.string ⟨#[97, 110]⟩) ∧ TR w W w2.heap.size op a b c n ⟨#[97, 110]⟩)
    (first | assumption | exact tr_s (by assumption))
    (first
      | (go_at_call 32; refine (letter_to op a b c n 97 a (by simp [letterOf]) _).mono ?_; rintro e wl0 ⟨rfl, hbl0⟩; have hyl0 := TR.below (tr_of (by assumption)) hbl0)
      | (go_at_call 31; refine (reftext_to a (by omega) (by omega) T0 HT0.out _).mono ?_; rintro e wt0 ⟨rfl, hbt0⟩; have hyt0 := TR.below (tr_of (by assumption)) hbt0))
  have HF1 := Lib.hid hyt0
  obtain ⟨_, e1, e2, e3, e4, e5, e6⟩ := HF1.out
  clear hyd0 hyl0 hyt0 hbl0 hbt0
  go_wp2_with fail
  rw [rounds_succ]
  go_wp2_with fail
  obtain ⟨Y1, hY1⟩ : ∃ Y, (Y0 ++ T0 ++ ⟨#[32]⟩ : ByteArray) = Y := ⟨_, rfl⟩
  obtain ⟨T1, hT1⟩ : ∃ T, (⟨(Lib.itoa n).toArray⟩ : ByteArray) = T := ⟨_, rfl⟩
  rw [hY1]
  have hYs1 : Y1.size ≤ 44 := by rw [← hY1, ByteArray.size_append, ByteArray.size_append]; show Y0.size + T0.size + 1 ≤ 44; omega
  have hTs1 : T1.size ≤ 20 := by rw [← hT1]; show (Lib.itoa n).toArray.size ≤ 20; rw [List.size_toArray]; omega
  have hsum1 : Y1.size + T1.size ≤ 9223372036854775807 := by omega
  have hsum21 : ¬ (9223372036854775807 < Y1.size + T1.size) := by omega
  have hsum31 : ¬ (Y1.size + T1.size > 9223372036854775807) := by omega
  have hrun1 : ∀ W : World, (Op.stringOp .add Y1 T1).run Tryd.prog W = .ok (.string (Y1 ++ T1)) W := fun W => run_string_add_sum W Y1 T1 hsum1
  have HY1 := Lib.hid hY1
  have HT1 := Lib.hid hT1
  clear hY1 hT1
  have hyd1 := TR.below HF1.out (Below.refl _ _).drew
  go_region_held3 (fun W => W.cell? ⟨w.heap.size, 0, none⟩ = some (.int .i64 op) ∧ W.cell? ⟨w.heap.size, 1, none⟩ = some (.int .i64 a) ∧ W.cell? ⟨w.heap.size, 2, none⟩ = some (.int .i64 b) ∧ W.cell? ⟨w.heap.size, 3, none⟩ = some (.int .i64 c) ∧ W.cell? ⟨w.heap.size, 4, none⟩ = some (.int .i64 n) ∧ W.cell? ⟨w2.heap.size, 1, none⟩ = some (.string ⟨#[97, 110]⟩) ∧ TR w W w2.heap.size op a b c n ⟨#[97, 110]⟩)
    (first | assumption | exact tr_s (by assumption))
    (first
      | (go_at_call 32; refine (letter_to op a b c n 110 n (by simp [letterOf]) _).mono ?_; rintro e wl1 ⟨rfl, hbl1⟩; have hyl1 := TR.below (tr_of (by assumption)) hbl1)
      | (go_at_call 31; refine (reftext_to n (by omega) (by omega) T1 HT1.out _).mono ?_; rintro e wt1 ⟨rfl, hbt1⟩; have hyt1 := TR.below (tr_of (by assumption)) hbt1))
  have HF2 := Lib.hid hyt1
  obtain ⟨_, e1, e2, e3, e4, e5, e6⟩ := HF2.out
  clear hyd1 hyl1 hyt1 hbl1 hbt1
  go_wp2_with fail
  rw [rounds_succ]
  go_wp2_with fail
  go_ret
  have zT1 := HT1.out
  subst zT1
  have zY1 := HY1.out
  subst zY1
  have zT0 := HT0.out
  subst zT0
  have zY0 := HY0.out
  subst zY0
  exact ⟨ret_text (by simp [textF, argT, letterOf]), HF2.out.base⟩
set_option maxRecDepth 100000 in
set_option maxHeartbeats 4000000 in
theorem rtx_11 (op : Nat) (h0 : 1 ≤ op) (h1 : op ≤ 36) (nm : List UInt8) (f2 f3 : ByteArray) (a b c n : Int) (hc : chkOf op a b c n = 0) (hnl : nm.length ≤ 20) (w : World)
    (hrow : rowV op = .agg #[.string ⟨nm.toArray⟩, .string ⟨#[97, 98, 110]⟩, .string f2, .string f3]) :
    Calls Tryd.prog 12 #[.agg #[.int .i64 op, .int .i64 a, .int .i64 b, .int .i64 c, .int .i64 n]] w fun e w' => e = .returned (.string ⟨(textF nm [97, 98, 110] a b c n).toArray⟩) ∧ Below w.heap.size w w' := by
  have HROW := Lib.hid hrow
  obtain ⟨⟨ha0, ha1⟩, ⟨hb0, hb1⟩, ⟨hc0, hc1⟩, hn0, hn1⟩ := chk_bounds (by rw [← chkOf_yes h0 h1]; exact hc)
  have hla := itoa_len (v := a) (by omega) (by omega)
  have hlb := itoa_len (v := b) (by omega) (by omega)
  have hlc := itoa_len (v := c) (by omega) (by omega)
  have hln := itoa_len (v := n) (by omega) (by omega)
  clear hrow
  go_enter Tryd.func12, Tryd.ntmps12
  go_wp2_with fail
  refine (refcheck_any op a b c n _).mono ?_
  rintro e w1 ⟨rfl, hb⟩
  rw [hc]
  obtain ⟨d0, d1, d2, d3, d4⟩ := ins_cells hb
  have HB1 := Lib.hid (((Below.refl w.heap.size w).alloc (Nat.le_refl _) _).trans (hb.mono (by simp)))
  have D0 := Lib.hid d0
  have D1 := Lib.hid d1
  have D2 := Lib.hid d2
  have D3 := Lib.hid d3
  have D4 := Lib.hid d4
  clear hb
  go_wp2_with fail
  refine (find_yes op h0 h1 _).mono ?_
  rintro e w2 ⟨rfl, hb2⟩
  rw [HROW.out]
  have hF : TR w (w2.alloc (.cells #[.string ⟨nm.toArray⟩, .string ⟨#[97, 98, 110]⟩, .string f2, .string f3] 60)) w2.heap.size op a b c n ⟨#[97, 98, 110]⟩ := by
    have hbq : Below w1.heap.size w1 (w2.alloc (.cells #[.string ⟨nm.toArray⟩, .string ⟨#[97, 98, 110]⟩, .string f2, .string f3] 60)) := hb2.alloc hb2.size _
    have st : ∀ (p : Addr) (u : Value), w1.cell? p = some u → (w2.alloc (.cells #[.string ⟨nm.toArray⟩, .string ⟨#[97, 98, 110]⟩, .string f2, .string f3] 60)).cell? p = some u := fun p _ hv => (hbq.cell (p := p) (World.block_lt_of_cell? w1 _ hv)).trans hv
    exact ⟨HB1.out.trans (hbq.mono HB1.out.size), st _ _ D0.out, st _ _ D1.out, st _ _ D2.out, st _ _ D3.out, st _ _ D4.out, by simp [go_sem]⟩
  have HF0 := Lib.hid hF
  clear hb2 d0 d1 d2 d3 d4 hF
  go_wp2_with fail
  obtain ⟨w3, hw3⟩ : ∃ w3, w2.alloc (.cells #[.string ⟨nm.toArray⟩, .string ⟨#[97, 98, 110]⟩, .string f2, .string f3] 60) = w3 := ⟨_, rfl⟩
  rw [hw3] at HF0 ⊢
  clear hw3
  obtain ⟨_, e1, e2, e3, e4, e5, e6⟩ := HF0.out
  refine wp_loop_rounds 4 ?_
  rw [rounds_succ]
  go_wp2_with fail
  obtain ⟨Y0, hY0⟩ : ∃ Y, (⟨nm.toArray⟩ ++ ⟨#[32]⟩ ++ ⟨#[114]⟩ : ByteArray) = Y := ⟨_, rfl⟩
  obtain ⟨T0, hT0⟩ : ∃ T, (⟨(Lib.itoa a).toArray⟩ : ByteArray) = T := ⟨_, rfl⟩
  rw [hY0]
  have hYs0 : Y0.size ≤ 22 := by rw [← hY0, ByteArray.size_append, ByteArray.size_append]; show nm.toArray.size + 1 + 1 ≤ 22; rw [List.size_toArray]; omega
  have hTs0 : T0.size ≤ 20 := by rw [← hT0]; show (Lib.itoa a).toArray.size ≤ 20; rw [List.size_toArray]; omega
  have hsum0 : Y0.size + T0.size ≤ 9223372036854775807 := by omega
  have hsum20 : ¬ (9223372036854775807 < Y0.size + T0.size) := by omega
  have hsum30 : ¬ (Y0.size + T0.size > 9223372036854775807) := by omega
  have hrun0 : ∀ W : World, (Op.stringOp .add Y0 T0).run Tryd.prog W = .ok (.string (Y0 ++ T0)) W := fun W => run_string_add_sum W Y0 T0 hsum0
  have HY0 := Lib.hid hY0
  have HT0 := Lib.hid hT0
  clear hY0 hT0
  have hyd0 := TR.below HF0.out (Below.refl _ _).drew
  go_region_held3 (fun W => W.cell? ⟨w.heap.size, 0, none⟩ = some (.int .i64 op) ∧ W.cell? ⟨w.heap.size, 1, none⟩ = some (.int .i64 a) ∧ W.cell? ⟨w.heap.size, 2, none⟩ = some (.int .i64 b) ∧ W.cell? ⟨w.heap.size, 3, none⟩ = some (.int .i64 c) ∧ W.cell? ⟨w.heap.size, 4, none⟩ = some (.int .i64 n) ∧ W.cell? ⟨w2.heap.size, 1, none⟩ = some (.string ⟨#[97, 98, 110]⟩) ∧ TR w W w2.heap.size op a b c n ⟨#[97, 98, 110]⟩)
    (first | assumption | exact tr_s (by assumption))
    (first
      | (go_at_call 32; refine (letter_to op a b c n 97 a (by simp [letterOf]) _).mono ?_; rintro e wl0 ⟨rfl, hbl0⟩; have hyl0 := TR.below (tr_of (by assumption)) hbl0)
      | (go_at_call 31; refine (reftext_to a (by omega) (by omega) T0 HT0.out _).mono ?_; rintro e wt0 ⟨rfl, hbt0⟩; have hyt0 := TR.below (tr_of (by assumption)) hbt0))
  have HF1 := Lib.hid hyt0
  obtain ⟨_, e1, e2, e3, e4, e5, e6⟩ := HF1.out
  clear hyd0 hyl0 hyt0 hbl0 hbt0
  go_wp2_with fail
  rw [rounds_succ]
  go_wp2_with fail
  obtain ⟨Y1, hY1⟩ : ∃ Y, (Y0 ++ T0 ++ ⟨#[32]⟩ ++ ⟨#[114]⟩ : ByteArray) = Y := ⟨_, rfl⟩
  obtain ⟨T1, hT1⟩ : ∃ T, (⟨(Lib.itoa b).toArray⟩ : ByteArray) = T := ⟨_, rfl⟩
  rw [hY1]
  have hYs1 : Y1.size ≤ 44 := by rw [← hY1, ByteArray.size_append, ByteArray.size_append, ByteArray.size_append]; show Y0.size + T0.size + 1 + 1 ≤ 44; omega
  have hTs1 : T1.size ≤ 20 := by rw [← hT1]; show (Lib.itoa b).toArray.size ≤ 20; rw [List.size_toArray]; omega
  have hsum1 : Y1.size + T1.size ≤ 9223372036854775807 := by omega
  have hsum21 : ¬ (9223372036854775807 < Y1.size + T1.size) := by omega
  have hsum31 : ¬ (Y1.size + T1.size > 9223372036854775807) := by omega
  have hrun1 : ∀ W : World, (Op.stringOp .add Y1 T1).run Tryd.prog W = .ok (.string (Y1 ++ T1)) W := fun W => run_string_add_sum W Y1 T1 hsum1
  have HY1 := Lib.hid hY1
  have HT1 := Lib.hid hT1
  clear hY1 hT1
  have hyd1 := TR.below HF1.out (Below.refl _ _).drew
  go_region_held3 (fun W => W.cell? ⟨w.heap.size, 0, none⟩ = some (.int .i64 op) ∧ W.cell? ⟨w.heap.size, 1, none⟩ = some (.int .i64 a) ∧ W.cell? ⟨w.heap.size, 2, none⟩ = some (.int .i64 b) ∧ W.cell? ⟨w.heap.size, 3, none⟩ = some (.int .i64 c) ∧ W.cell? ⟨w.heap.size, 4, none⟩ = some (.int .i64 n) ∧ W.cell? ⟨w2.heap.size, 1, none⟩ = some (.string ⟨#[97, 98, 110]⟩) ∧ TR w W w2.heap.size op a b c n ⟨#[97, 98, 110]⟩)
    (first | assumption | exact tr_s (by assumption))
    (first
      | (go_at_call 32; refine (letter_to op a b c n 98 b (by simp [letterOf]) _).mono ?_; rintro e wl1 ⟨rfl, hbl1⟩; have hyl1 := TR.below (tr_of (by assumption)) hbl1)
      | (go_at_call 31; refine (reftext_to b (by omega) (by omega) T1 HT1.out _).mono ?_; rintro e wt1 ⟨rfl, hbt1⟩; have hyt1 := TR.below (tr_of (by assumption)) hbt1))
  have HF2 := Lib.hid hyt1
  obtain ⟨_, e1, e2, e3, e4, e5, e6⟩ := HF2.out
  clear hyd1 hyl1 hyt1 hbl1 hbt1
  go_wp2_with fail
  rw [rounds_succ]
  go_wp2_with fail
  obtain ⟨Y2, hY2⟩ : ∃ Y, (Y1 ++ T1 ++ ⟨#[32]⟩ : ByteArray) = Y := ⟨_, rfl⟩
  obtain ⟨T2, hT2⟩ : ∃ T, (⟨(Lib.itoa n).toArray⟩ : ByteArray) = T := ⟨_, rfl⟩
  rw [hY2]
  have hYs2 : Y2.size ≤ 66 := by rw [← hY2, ByteArray.size_append, ByteArray.size_append]; show Y1.size + T1.size + 1 ≤ 66; omega
  have hTs2 : T2.size ≤ 20 := by rw [← hT2]; show (Lib.itoa n).toArray.size ≤ 20; rw [List.size_toArray]; omega
  have hsum2 : Y2.size + T2.size ≤ 9223372036854775807 := by omega
  have hsum22 : ¬ (9223372036854775807 < Y2.size + T2.size) := by omega
  have hsum32 : ¬ (Y2.size + T2.size > 9223372036854775807) := by omega
  have hrun2 : ∀ W : World, (Op.stringOp .add Y2 T2).run Tryd.prog W = .ok (.string (Y2 ++ T2)) W := fun W => run_string_add_sum W Y2 T2 hsum2
  have HY2 := Lib.hid hY2
  have HT2 := Lib.hid hT2
  clear hY2 hT2
  have hyd2 := TR.below HF2.out (Below.refl _ _).drew
  go_region_held3 (fun W => W.cell? ⟨w.heap.size, 0, none⟩ = some (.int .i64 op) ∧ W.cell? ⟨w.heap.size, 1, none⟩ = some (.int .i64 a) ∧ W.cell? ⟨w.heap.size, 2, none⟩ = some (.int .i64 b) ∧ W.cell? ⟨w.heap.size, 3, none⟩ = some (.int .i64 c) ∧ W.cell? ⟨w.heap.size, 4, none⟩ = some (.int .i64 n) ∧ W.cell? ⟨w2.heap.size, 1, none⟩ = some (.string ⟨#[97, 98, 110]⟩) ∧ TR w W w2.heap.size op a b c n ⟨#[97, 98, 110]⟩)
    (first | assumption | exact tr_s (by assumption))
    (first
      | (go_at_call 32; refine (letter_to op a b c n 110 n (by simp [letterOf]) _).mono ?_; rintro e wl2 ⟨rfl, hbl2⟩; have hyl2 := TR.below (tr_of (by assumption)) hbl2)
      | (go_at_call 31; refine (reftext_to n (by omega) (by omega) T2 HT2.out _).mono ?_; rintro e wt2 ⟨rfl, hbt2⟩; have hyt2 := TR.below (tr_of (by assumption)) hbt2))
  have HF3 := Lib.hid hyt2
  obtain ⟨_, e1, e2, e3, e4, e5, e6⟩ := HF3.out
  clear hyd2 hyl2 hyt2 hbl2 hbt2
  go_wp2_with fail
  rw [rounds_succ]
  go_wp2_with fail
  go_ret
  have zT2 := HT2.out
  subst zT2
  have zY2 := HY2.out
  subst zY2
  have zT1 := HT1.out
  subst zT1
  have zY1 := HY1.out
  subst zY1
  have zT0 := HT0.out
  subst zT0
  have zY0 := HY0.out
  subst zY0
  exact ⟨ret_text (by simp [textF, argT, letterOf]), HF3.out.base⟩
set_option maxRecDepth 100000 in
set_option maxHeartbeats 4000000 in
theorem rtx_bad (op a b c n : Int) (hc : chkOf op a b c n ≠ 0) (w : World) :
    Calls Tryd.prog 12 #[.agg #[.int .i64 op, .int .i64 a, .int .i64 b, .int .i64 c, .int .i64 n]] w fun e w' => e = .returned (.string ⟨#[]⟩) ∧ Below w.heap.size w w' := by
  obtain ⟨E, hE⟩ : ∃ E, chkOf op a b c n = E := ⟨_, rfl⟩
  rw [hE] at hc
  have hq : (E != 0) = true := by simpa using hc
  clear hc
  go_enter Tryd.func12, Tryd.ntmps12
  go_wp2_with fail
  refine (refcheck_any op a b c n _).mono ?_
  rintro e w1 ⟨rfl, hb⟩
  rw [hE]
  have HB := Lib.hid (((Below.refl w.heap.size w).alloc (Nat.le_refl _) _).trans (hb.mono (by simp)))
  clear hb
  go_wp2_with fail
  go_ret
  exact ⟨rfl, HB.out⟩
theorem reftxt_any (op a b c n : Int) (w : World) :
    Calls Tryd.prog 12 #[.agg #[.int .i64 op, .int .i64 a, .int .i64 b, .int .i64 c, .int .i64 n]] w fun e w' => e = .returned (.string ⟨(textOf op a b c n).toArray⟩) ∧ Below w.heap.size w w' := by
  by_cases hc : chkOf op a b c n = 0
  · obtain ⟨h0, h1⟩ := known_of hc
    obtain ⟨k, rfl⟩ := Int.eq_ofNat_of_zero_le (show 0 ≤ op by omega)
    have hk0 : 1 ≤ k := by omega
    have hk1 : k ≤ 36 := by omega
    have hl := row_name k (by omega)
    have e : textOf (k : Int) a b c n = textF (rowOf k).1 (rowOf k).2.1 a b c n := by unfold textOf; rw [if_pos hc]; rfl
    rw [e]
    rcases row_cases k (by omega) with ⟨_, q2⟩ | ⟨_, q2⟩ | ⟨_, q2⟩ | ⟨_, q2⟩ | ⟨_, q2⟩ | ⟨_, q2⟩ | ⟨_, q2⟩
    · rw [q2]; exact rtx_0 k hk0 hk1 _ (bs (rowOf k).2.2.1) (bs (rowOf k).2.2.2) a b c n hc hl w (by unfold rowV strV; rw [q2]; rfl)
    · rw [q2]; exact rtx_1 k hk0 hk1 _ (bs (rowOf k).2.2.1) (bs (rowOf k).2.2.2) a b c n hc hl w (by unfold rowV strV; rw [q2]; rfl)
    · rw [q2]; exact rtx_3 k hk0 hk1 _ (bs (rowOf k).2.2.1) (bs (rowOf k).2.2.2) a b c n hc hl w (by unfold rowV strV; rw [q2]; rfl)
    · rw [q2]; exact rtx_7 k hk0 hk1 _ (bs (rowOf k).2.2.1) (bs (rowOf k).2.2.2) a b c n hc hl w (by unfold rowV strV; rw [q2]; rfl)
    · rw [q2]; exact rtx_8 k hk0 hk1 _ (bs (rowOf k).2.2.1) (bs (rowOf k).2.2.2) a b c n hc hl w (by unfold rowV strV; rw [q2]; rfl)
    · rw [q2]; exact rtx_9 k hk0 hk1 _ (bs (rowOf k).2.2.1) (bs (rowOf k).2.2.2) a b c n hc hl w (by unfold rowV strV; rw [q2]; rfl)
    · rw [q2]; exact rtx_11 k hk0 hk1 _ (bs (rowOf k).2.2.1) (bs (rowOf k).2.2.2) a b c n hc hl w (by unfold rowV strV; rw [q2]; rfl)
  · have e : textOf op a b c n = [] := by unfold textOf; rw [if_neg hc]
    rw [e]
    exact rtx_bad op a b c n hc w
end Go.Proofs.YtfpgalckmfdcmaaDoor
