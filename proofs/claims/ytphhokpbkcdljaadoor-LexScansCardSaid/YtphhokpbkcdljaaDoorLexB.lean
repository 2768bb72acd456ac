/- The contracts of the document's Longest, comment and Blank. Condition: the text has no more than a million bytes. -/
import Derived.Lib.PathFns
import Derived.Test.YtphhokpbkcdljaaDoorLexA
namespace Go.Proofs.YtphhokpbkcdljaaDoor
open Go Go.RowKit
theorem ext_tk (s : ByteArray) (k : Nat) : (s.extract 0 k).data.toList = s.data.toList.take k := Lib.Pa.extract_upto_list s k
theorem tok_some {s : ByteArray} (hs : s.size ≤ 1000000) {t : Tok} (h : tokL s.data.toList = some t) (w : World) :
    Calls Tryd.prog 29 #[.string s] w fun e w' => e = .returned (.tuple #[.agg #[.int .i64 (t.kind : Int), .string ⟨t.text.toArray⟩, .int .i64 (t.num : Int), .int .i64 0], .bool true]) ∧ Below w.heap.size w w' := by
  have := ref_token s hs w
  rw [h] at this
  exact this
theorem tok_none {s : ByteArray} (hs : s.size ≤ 1000000) (h : tokL s.data.toList = none) (w : World) :
    Calls Tryd.prog 29 #[.string s] w fun e w' => e = .returned (.tuple #[.agg #[.int .i64 0, .string ⟨#[]⟩, .int .i64 0, .int .i64 0], .bool false]) ∧ Below w.heap.size w w' := by
  have := ref_token s hs w
  rw [h] at this
  exact this
def longV (o : Option (Tok × Nat)) : Value := match o with
  | some x => .tuple #[tokA x.1 0, .int .i64 (x.2 : Int)]
  | none => .tuple #[tokNil, .int .i64 0]
theorem tokL_nil : tokL [] = none := by decide
set_option maxRecDepth 100000 in
set_option maxHeartbeats 16000000 in
theorem ref_longest (s : ByteArray) (hs : s.size ≤ 1000000) (w : World) :
    Calls Tryd.prog 25 #[.string s] w fun e w' => e = .returned (longV (longL s.data.toList)) ∧ Below w.heap.size w w' := by
  have hs1 : s.size ≤ 140737488351232 := by omega
  have HD := Lib.hid (ref_digits s hs1)
  obtain ⟨res, hr⟩ : ∃ res, longV (longL s.data.toList) = res := ⟨_, rfl⟩
  rw [hr]
  have HBX := Lib.hid (below_oneL w (.cells #[.int .i64 0, .string ⟨#[]⟩, .int .i64 0, .int .i64 0] 32))
  have hrl := run_le isDg s.data.toList
  rw [len_data] at hrl
  unfold longL at hr
  obtain ⟨n, hn⟩ : ∃ n, Go.Proofs.YtphhokpbkcdljaaDoor.run isDg s.data.toList = n := ⟨_, rfl⟩
  rw [hn] at HD hrl hr
  by_cases h0 : n > 0
  · have hB : decide ((0 : Int) < (n : Int)) = true := decide_eq_true (by omega)
    have hBn : decide (0 < n) = true := decide_eq_true (by omega)
    have hBm : 0 < n := h0
    rw [if_pos h0] at hr
    have hex := ext_tk s n
    have hsz : (s.extract 0 n).size ≤ 1000000 := by rw [ByteArray.size_extract]; omega
    have hn0 : (0 : Int) ≤ n := by omega
    have hns : (n : Int) ≤ s.size := by omega
    cases et : tokL (s.data.toList.take n) with
    | some t =>
      rw [et] at hr
      have HT := Lib.hid (tok_some hsz (by rw [hex]; exact et))
      have HR := Lib.hid hr
      clear hr hn h0 et hex hsz
      go_enter Tryd.func25, Tryd.ntmps25
      go_wp2_with fail
      refine (HD.out _).mono ?_
      rintro e w1 ⟨rfl, hw1⟩
      subst w1
      go_wp2_with fail
      refine (HT.out _).mono ?_
      rintro e w1 ⟨rfl, hb1⟩
      have hbx := box_stay hb1
      have hbb := HBX.out.trans (hb1.mono HBX.out.size)
      have hbx2 := (Below.heap_alloc w1 (.cells #[.int .i64 (t.kind : Int), .string ⟨t.text.toArray⟩, .int .i64 (t.num : Int), .int .i64 0] 32) w.heap.size (Array.getElem?_eq_some_iff.1 hbx).1).trans hbx
      have HC := Lib.hid (And.intro hbx2 (hbb.alloc hbb.size (.cells #[.int .i64 (t.kind : Int), .string ⟨t.text.toArray⟩, .int .i64 (t.num : Int), .int .i64 0] 32)))
      have e0 := blk_cellL hbx2 0
      have e1 := blk_cellL hbx2 1
      have e2 := blk_cellL hbx2 2
      have e3 := blk_cellL hbx2 3
      have g0 := blk_freeL hbx2
      clear hb1 hbx hbb hbx2
      go_wp2_with fail
      have hb1 := tok_set HC.out.1 (.int .i64 (t.kind : Int)) (.string ⟨t.text.toArray⟩) (.int .i64 (t.num : Int)) (.int .i64 0)
      have hb2 := tok_below HC.out.2 (Nat.le_refl _) (.int .i64 (t.kind : Int)) (.string ⟨t.text.toArray⟩) (.int .i64 (t.num : Int)) (.int .i64 0)
      generalize World.setCell (World.setCell (World.setCell (World.setCell _ _ _) _ _) _ _) _ _ = W4 at hb1 hb2 ⊢
      have f0 := blk_cellL hb1 0
      have f1 := blk_cellL hb1 1
      have f2 := blk_cellL hb1 2
      have f3 := blk_cellL hb1 3
      exact bodyPost_ret (v := .tuple #[.agg #[.int .i64 (t.kind : Int), .string ⟨t.text.toArray⟩, .int .i64 (t.num : Int), .int .i64 0], .int .i64 (n : Int)]) (by simp [results, Tryd.results25, go_sem, f0, f1, f2, f3]) rfl ⟨by rw [← HR.out]; rfl, hb2⟩
    | none =>
      rw [et] at hr
      have HT := Lib.hid (tok_none hsz (by rw [hex]; exact et))
      have HR := Lib.hid hr
      clear hr hn h0 et hex hsz
      go_enter Tryd.func25, Tryd.ntmps25
      go_wp2_with fail
      refine (HD.out _).mono ?_
      rintro e w1 ⟨rfl, hw1⟩
      subst w1
      go_wp2_with fail
      refine (HT.out _).mono ?_
      rintro e w1 ⟨rfl, hb1⟩
      have hbx := box_stay hb1
      have hbb := HBX.out.trans (hb1.mono HBX.out.size)
      have hbx2 := (Below.heap_alloc w1 (.cells #[.int .i64 0, .string ⟨#[]⟩, .int .i64 0, .int .i64 0] 32) w.heap.size (Array.getElem?_eq_some_iff.1 hbx).1).trans hbx
      have HC := Lib.hid (And.intro hbx2 (hbb.alloc hbb.size (.cells #[.int .i64 0, .string ⟨#[]⟩, .int .i64 0, .int .i64 0] 32)))
      have e0 := blk_cellL hbx2 0
      have e1 := blk_cellL hbx2 1
      have e2 := blk_cellL hbx2 2
      have e3 := blk_cellL hbx2 3
      have g0 := blk_freeL hbx2
      clear hb1 hbx hbb hbx2
      go_wp2_with fail
      have hb1 := tok_set HC.out.1 (.int .i64 0) (.string ⟨#[]⟩) (.int .i64 0) (.int .i64 0)
      have hb2 := tok_below HC.out.2 (Nat.le_refl _) (.int .i64 0) (.string ⟨#[]⟩) (.int .i64 0) (.int .i64 0)
      generalize World.setCell (World.setCell (World.setCell (World.setCell _ _ _) _ _) _ _) _ _ = W4 at hb1 hb2 ⊢
      have f0 := blk_cellL hb1 0
      have f1 := blk_cellL hb1 1
      have f2 := blk_cellL hb1 2
      have f3 := blk_cellL hb1 3
      exact bodyPost_ret (v := .tuple #[.agg #[.int .i64 0, .string ⟨#[]⟩, .int .i64 0, .int .i64 0], .int .i64 0]) (by simp [results, Tryd.results25, go_sem, f0, f1, f2, f3]) rfl ⟨by rw [← HR.out]; rfl, hb2⟩
  · have hB : decide ((0 : Int) < (n : Int)) = false := decide_eq_false (by omega)
    have hBn : decide (0 < n) = false := decide_eq_false (by omega)
    have hBm : (n : Int) ≤ 0 := by omega
    rw [if_neg h0, len_data] at hr
    obtain ⟨D, hD⟩ : ∃ D, down s.data.toList s.size = D := ⟨_, rfl⟩
    rw [hD] at hr
    have HR := Lib.hid hr
    have HDN := Lib.hid hD
    clear hr hn h0 hD hrl
    go_enter Tryd.func25, Tryd.ntmps25
    go_wp2_with fail
    refine (HD.out _).mono ?_
    rintro e w1 ⟨rfl, hw1⟩
    subst w1
    go_wp2_with fail
    go_loopw [4] (fun i wr => ∃ k : Nat, k ≤ s.size ∧ i = .int .i64 k ∧ down s.data.toList k = D ∧ Below (w.alloc (.cells #[.int .i64 0, .string ⟨#[]⟩, .int .i64 0, .int .i64 0] 32)).heap.size (w.alloc (.cells #[.int .i64 0, .string ⟨#[]⟩, .int .i64 0, .int .i64 0] 32)) wr) (fun i _ => (intOf i).toNat)
    case atStart => exact ⟨s.size, Nat.le_refl _, rfl, HDN.out, Below.refl _ _⟩
    case round =>
      obtain ⟨k, hk, rfl, hdk, hbr⟩ := hrel
      have HBR := Lib.hid hbr
      clear hbr
      by_cases hk0 : 0 < k
      · have hB2 : decide ((0 : Int) < (k : Int)) = true := decide_eq_true (by omega)
        have hB3 : decide (0 < k) = true := decide_eq_true (by omega)
        obtain ⟨m, rfl⟩ : ∃ m, k = m + 1 := ⟨k - 1, by omega⟩
        rw [down] at hdk
        have hex := ext_tk s (m + 1)
        have hsz : (s.extract 0 (m + 1)).size ≤ 1000000 := by rw [ByteArray.size_extract]; omega
        have hns : (m : Int) + 1 ≤ s.size := by omega
        have hm0 : (0 : Int) ≤ m := by omega
        cases et : tokL (s.data.toList.take (m + 1)) with
        | some t =>
          rw [et] at hdk
          have HT := Lib.hid (tok_some hsz (by rw [hex]; exact et))
          have HDK := Lib.hid hdk
          clear hdk et hex hsz
          go_wp2_with fail
          refine (HT.out _).mono ?_
          rintro e w1 ⟨rfl, hb1⟩
          have hb0 := HBR.out.trans (hb1.mono HBR.out.size)
          have hbx := box_stay hb0
          have hbb := HBX.out.trans (hb0.mono HBX.out.size)
          have hbx2 := (Below.heap_alloc w1 (.cells #[.int .i64 (t.kind : Int), .string ⟨t.text.toArray⟩, .int .i64 (t.num : Int), .int .i64 0] 32) w.heap.size (Array.getElem?_eq_some_iff.1 hbx).1).trans hbx
          have HC := Lib.hid (And.intro hbx2 (hbb.alloc hbb.size (.cells #[.int .i64 (t.kind : Int), .string ⟨t.text.toArray⟩, .int .i64 (t.num : Int), .int .i64 0] 32)))
          have e0 := blk_cellL hbx2 0
          have e1 := blk_cellL hbx2 1
          have e2 := blk_cellL hbx2 2
          have e3 := blk_cellL hbx2 3
          have g0 := blk_freeL hbx2
          clear hb1 hbx hbb hbx2 hb0
          go_wp2_with fail
          have hb1 := tok_set HC.out.1 (.int .i64 (t.kind : Int)) (.string ⟨t.text.toArray⟩) (.int .i64 (t.num : Int)) (.int .i64 0)
          have hb2 := tok_below HC.out.2 (Nat.le_refl _) (.int .i64 (t.kind : Int)) (.string ⟨t.text.toArray⟩) (.int .i64 (t.num : Int)) (.int .i64 0)
          generalize World.setCell (World.setCell (World.setCell (World.setCell _ _ _) _ _) _ _) _ _ = W4 at hb1 hb2 ⊢
          have f0 := blk_cellL hb1 0
          have f1 := blk_cellL hb1 1
          have f2 := blk_cellL hb1 2
          have f3 := blk_cellL hb1 3
          exact bodyPost_ret (v := .tuple #[.agg #[.int .i64 (t.kind : Int), .string ⟨t.text.toArray⟩, .int .i64 (t.num : Int), .int .i64 0], .int .i64 ((m : Int) + 1)]) (by simp [results, Tryd.results25, go_sem, f0, f1, f2, f3]) rfl ⟨by rw [← HR.out, ← HDK.out]; rfl, hb2⟩
        | none =>
          rw [et] at hdk
          simp only at hdk
          have HT := Lib.hid (tok_none hsz (by rw [hex]; exact et))
          have HDK := Lib.hid hdk
          clear hdk et hex hsz
          go_wp2_with fail
          refine (HT.out _).mono ?_
          rintro e w1 ⟨rfl, hb1⟩
          have hb0 := HBR.out.trans (hb1.mono HBR.out.size)
          have HB0 := Lib.hid (hb0.alloc hb0.size (.cells #[.int .i64 0, .string ⟨#[]⟩, .int .i64 0, .int .i64 0] 32))
          clear hb1 hb0
          go_wp2_with fail
          go_roundw
          case rel => exact ⟨m, by omega, by go_num, HDK.out, HB0.out⟩
          case measure => simp [intOf]
      · have hB2 : decide ((0 : Int) < (k : Int)) = false := decide_eq_false (by omega)
        obtain rfl : k = 0 := by omega
        have HDK := Lib.hid (show none = D from hdk)
        have hbx := box_stay HBR.out
        have HC := Lib.hid (And.intro hbx (HBX.out.trans (HBR.out.mono HBX.out.size)))
        have e0 := blk_cellL hbx 0
        have e1 := blk_cellL hbx 1
        have e2 := blk_cellL hbx 2
        have e3 := blk_cellL hbx 3
        have g0 := blk_freeL hbx
        clear hdk hbx
        go_wp2_with fail
        have hb1 := tok_set HC.out.1 (.int .i64 0) (.string ⟨#[]⟩) (.int .i64 0) (.int .i64 0)
        have hb2 := tok_below HC.out.2 (Nat.le_refl _) (.int .i64 0) (.string ⟨#[]⟩) (.int .i64 0) (.int .i64 0)
        generalize World.setCell (World.setCell (World.setCell (World.setCell _ _ _) _ _) _ _) _ _ = W4 at hb1 hb2 ⊢
        have f0 := blk_cellL hb1 0
        have f1 := blk_cellL hb1 1
        have f2 := blk_cellL hb1 2
        have f3 := blk_cellL hb1 3
        exact bodyPost_ret (v := .tuple #[.agg #[.int .i64 0, .string ⟨#[]⟩, .int .i64 0, .int .i64 0], .int .i64 0]) (by simp [results, Tryd.results25, go_sem, f0, f1, f2, f3]) rfl ⟨by rw [← HR.out, ← HDK.out]; rfl, hb2⟩
end Go.Proofs.YtphhokpbkcdljaaDoor
