/- The contract of the program's cutText: a quoted text's token. Condition: the text has no more than a million bytes. -/
import Derived.Test.YtphhokpbkcdljaaDoorLexH
import Derived.Test.YtphhokpbkcdljaaDoorLexA
namespace Go.Proofs.YtphhokpbkcdljaaDoor
open Go Go.RowKit
/-- what cutText answers, so many bytes being read -/
def ctV (q : Nat) (out : List UInt8) (o : Option (List UInt8 × Nat)) : Value := match o with
  | some y => .tuple #[tokA ⟨2, out ++ y.1, 0⟩ 0, .int .i64 ((q + y.2 : Nat) : Int), .bool true]
  | none => .tuple #[tokNil, .int .i64 0, .bool false]
theorem ct_none {q : Nat} {out l : List UInt8} (h34 : l.headD 0 ≠ 34) (h : sgn l = none) : ctV q out (txt l) = .tuple #[tokNil, .int .i64 0, .bool false] := by
  rw [txt_cons h34, h]; rfl
theorem ct_step {q : Nat} {out l : List UInt8} {x : UInt8 × Nat} (h34 : l.headD 0 ≠ 34) (h : sgn l = some x) : ctV q out (txt l) = ctV (q + x.2) (out ++ [x.1]) (txt (l.drop x.2)) := by
  rw [txt_cons h34, h]
  simp only
  cases txt (l.drop x.2) with
  | none => rfl
  | some y =>
    show Value.tuple #[tokA ⟨2, out ++ x.1 :: y.1, 0⟩ 0, .int .i64 ((q + (y.2 + x.2) : Nat) : Int), .bool true] = Value.tuple #[tokA ⟨2, out ++ [x.1] ++ y.1, 0⟩ 0, .int .i64 ((q + x.2 + y.2 : Nat) : Int), .bool true]
    rw [List.append_assoc, show q + (y.2 + x.2) = q + x.2 + y.2 by omega]
    rfl
theorem ct_end {q : Nat} {out l : List UInt8} (h34 : l.headD 0 = 34) : ctV q out (txt l) = .tuple #[tokA ⟨2, out, 0⟩ 0, .int .i64 ((q + 1 : Nat) : Int), .bool true] := by
  rw [txt, if_pos h34]
  show Value.tuple #[tokA ⟨2, out ++ [], 0⟩ 0, _, _] = _
  rw [List.append_nil]
theorem ct_nil {q : Nat} {out : List UInt8} : ctV q out (txt []) = .tuple #[tokNil, .int .i64 0, .bool false] := by rw [txt_nil]; rfl
structure CT (w : World) (k : Nat) (out : List UInt8) (v : Value) (wr : World) : Prop where
  row : wr.ownsRow (w.heap.size + 1) 5 1 v out.length (u8s out)
  len : out.length ≤ k
  fr : Below (w.heap.size + 1) (w.alloc (.cells #[.int .i64 0, .string ⟨#[]⟩, .int .i64 0, .int .i64 0] 32)) wr
theorem CT.box {w : World} {k : Nat} {out : List UInt8} {v : Value} {wr : World} (h : CT w k out v wr) : wr.heap[w.heap.size]? = some (.cells #[.int .i64 0, .string ⟨#[]⟩, .int .i64 0, .int .i64 0] 32 (0, 0)) :=
  (h.fr.block _ (Nat.lt_succ_self _)).trans (heap_alloc_new w _)
theorem CT.below {w : World} {k : Nat} {out : List UInt8} {v : Value} {wr : World} (h : CT w k out v wr) : Below w.heap.size w wr :=
  (below_oneL w _).trans (h.fr.mono (Nat.le_succ _))
set_option maxRecDepth 100000 in
set_option maxHeartbeats 16000000 in
theorem cuttext_any (s : ByteArray) (hs : s.size ≤ 1000000) (k : Nat) (hk : k < s.size) (w : World) :
    Calls Tryd.prog 41 #[.string s, .int .i64 (k : Int)] w fun e w' => e = .returned (ctV (k + 1) [] (txt (s.data.toList.drop (k + 1)))) ∧ Below w.heap.size w w' := by
  obtain ⟨i0, hi, hz0, hz1, hz2⟩ := info_parts infoU8L
  obtain ⟨res, hr⟩ : ∃ res, ctV (k + 1) [] (txt (s.data.toList.drop (k + 1))) = res := ⟨_, rfl⟩
  rw [hr]
  have HR := Lib.hid hr
  clear hr
  have HC := Lib.hid (show CT w (k + 1) [] (.slice none 0 0) (w.alloc (.cells #[.int .i64 0, .string ⟨#[]⟩, .int .i64 0, .int .i64 0] 32)) from ⟨World.ownsRow_nil _ _ _ _, by simp, Below.refl _ _⟩)
  go_enter Tryd.func41, Tryd.ntmps41
  go_wp2_with fail
  go_loopw [1, 7] (fun i v wr => ∃ (q : Nat) (out : List UInt8), 1 ≤ q ∧ q ≤ s.size ∧ i = .int .i64 q ∧ CT w q out v wr ∧ ctV q out (txt (s.data.toList.drop q)) = res) (fun i _ _ => s.size - (intOf i).toNat)
  case atStart => exact ⟨k + 1, [], by omega, by omega, by go_num, HC.out, HR.out⟩
  case round =>
    clear hk
    obtain ⟨q, out, hq1, hq, rfl, hct, hres⟩ := hrel
    obtain ⟨va, vc, rfl⟩ := ownsRow_shapeL hct.row
    have HX := Lib.hid hct
    have hol := hct.len
    obtain ⟨L, hL⟩ : ∃ L, out.length = L := ⟨_, rfl⟩
    rw [hL] at hol ⊢
    have HL := Lib.hid hL
    have hrow := hct.row
    rw [hL] at hrow
    have HROW := Lib.hid hrow
    clear hL hrow hct
    have hq0 : (0 : Int) ≤ q := by omega
    have hqs : (q : Int) ≤ s.size := by omega
    by_cases hlt : q < s.size
    · have hdr := drop_cons s hlt
      have p0 : (0 : Int) ≤ (s[q].toNat : Int) := by omega
      have p1 : (s[q].toNat : Int) ≤ 255 := by have := s[q].toNat_lt; omega
      by_cases hc : s[q].toNat = 34
      · have hB : (((s[q].toNat : Nat) : Int) != 34) = false := by rw [hc]; rfl
        have h34 : (s.data.toList.drop q).headD 0 = 34 := by rw [hdr]; exact UInt8.toNat_inj.1 (by rw [List.headD_cons, hc]; rfl)
        rw [ct_end h34] at hres
        have HRES := Lib.hid hres
        have hcv0 : (convert 30 9 (.slice va L vc)).run Tryd.prog wr = .ok (.string ⟨out.toArray⟩) wr := own_text HL.out HROW.out
        have r0 := blk_cellL HX.out.box 0
        have r1 := blk_cellL HX.out.box 1
        have r2 := blk_cellL HX.out.box 2
        have r3 := blk_cellL HX.out.box 3
        have g1 := blk_freeL HX.out.box
        clear hres hdr h34 hc
        go_wp2_with fail
        have hs4 := tok_set HX.out.box (.int .i64 2) (.string ⟨out.toArray⟩) (.int .i64 0) (.int .i64 0)
        have hs5 := tok_below HX.out.below (Nat.le_refl _) (.int .i64 2) (.string ⟨out.toArray⟩) (.int .i64 0) (.int .i64 0)
        clear r0 r1 r2 r3 g1
        generalize World.setCell (World.setCell (World.setCell (World.setCell _ _ _) _ _) _ _) _ _ = W4 at hs4 hs5 ⊢
        have f0 := blk_cellL hs4 0
        have f1 := blk_cellL hs4 1
        have f2 := blk_cellL hs4 2
        have f3 := blk_cellL hs4 3
        exact bodyPost_ret (v := .tuple #[.agg #[.int .i64 2, .string ⟨out.toArray⟩, .int .i64 0, .int .i64 0], .int .i64 ((q : Int) + 1), .bool true]) (by simp [results, Tryd.results41, go_sem, f0, f1, f2, f3]) rfl ⟨by rw [← HRES.out]; rfl, hs5⟩
      · have hB : (((s[q].toNat : Nat) : Int) != 34) = true := by simp; omega
        have h34 : (s.data.toList.drop q).headD 0 ≠ 34 := by
          rw [hdr]
          intro e
          exact hc (by rw [List.headD_cons] at e; rw [e]; rfl)
        have hse : 0 < (s.extract q s.size).size := by rw [ByteArray.size_extract]; omega
        have hhd : (s.extract q s.size)[0].toNat ≠ 34 := by
          intro e
          apply h34
          rw [← ext_drop]
          have h5 := drop_cons (s.extract q s.size) hse
          rw [List.drop_zero] at h5
          rw [h5]
          exact UInt8.toNat_inj.1 (by rw [List.headD_cons, e]; rfl)
        have hsg := letter_any (s.extract q s.size) (by rw [ByteArray.size_extract]; omega) hse hhd wr
        rw [ext_drop] at hsg
        cases e : sgn (s.data.toList.drop q) with
        | none =>
          have hv : sgnV (s.data.toList.drop q) = (0, 0) := by unfold sgnV; rw [e]
          rw [hv] at hsg
          rw [ct_none h34 e] at hres
          have HRES := Lib.hid hres
          have HSG := Lib.hid (show Calls _ _ _ wr (fun e w' => e = .returned (.tuple #[.int .u8 0, .int .i64 0]) ∧ ∃ n, w' = wr.drewN n) from hsg)
          clear hsg hv e hres hdr h34 hc hse hhd
          go_wp2_with fail
          refine (HSG.out).mono ?_
          rintro e w1 ⟨rfl, q1, hw1⟩
          have HX1 := Lib.hid (show CT w q out (.slice va L vc) w1 from by rw [hw1]; exact ⟨by rw [HL.out]; exact HROW.out, HX.out.len, drewL HX.out.fr q1⟩)
          have r0 := blk_cellL HX1.out.box 0
          have r1 := blk_cellL HX1.out.box 1
          have r2 := blk_cellL HX1.out.box 2
          have r3 := blk_cellL HX1.out.box 3
          have g1 := blk_freeL HX1.out.box
          clear hw1
          go_wp2_with fail
          have hs4 := tok_set HX1.out.box (.int .i64 0) (.string ⟨#[]⟩) (.int .i64 0) (.int .i64 0)
          have hs5 := tok_below HX1.out.below (Nat.le_refl _) (.int .i64 0) (.string ⟨#[]⟩) (.int .i64 0) (.int .i64 0)
          clear r0 r1 r2 r3 g1
          generalize World.setCell (World.setCell (World.setCell (World.setCell _ _ _) _ _) _ _) _ _ = W4 at hs4 hs5 ⊢
          have f0 := blk_cellL hs4 0
          have f1 := blk_cellL hs4 1
          have f2 := blk_cellL hs4 2
          have f3 := blk_cellL hs4 3
          exact bodyPost_ret (v := .tuple #[.agg #[.int .i64 0, .string ⟨#[]⟩, .int .i64 0, .int .i64 0], .int .i64 0, .bool false]) (by simp [results, Tryd.results41, go_sem, f0, f1, f2, f3]) rfl ⟨by rw [← HRES.out]; rfl, hs5⟩
        | some x =>
          have hv : sgnV (s.data.toList.drop q) = x := by unfold sgnV; rw [e]
          rw [hv] at hsg
          have hp := sgn_pos e
          rw [List.length_drop, len_data] at hp
          rw [ct_step h34 e, List.drop_drop] at hres
          obtain ⟨c, n⟩ := x
          simp only at hsg hp hres
          have HSG := Lib.hid hsg
          have HRES := Lib.hid hres
          have hnB : ((n : Int) == 0) = false := by simp; omega
          have hn4 : (n : Int) ≤ 4 := by omega
          have hc0 : (0 : Int) ≤ (c.toNat : Int) := by omega
          have hc1 : (c.toNat : Int) ≤ 255 := by have := c.toNat_lt; omega
          have hkn : q + n ≤ s.size := by omega
          have hn1 : 1 ≤ n := hp.1
          clear hsg hv e hp hres hdr h34 hc hse hhd
          go_wp2_with fail
          refine (HSG.out).mono ?_
          rintro e w1 ⟨rfl, q1, hw1⟩
          have HX1 := Lib.hid (show CT w q out (.slice va L vc) w1 from by rw [hw1]; exact ⟨by rw [HL.out]; exact HROW.out, HX.out.len, drewL HX.out.fr q1⟩)
          have HROW1 := Lib.hid (show w1.ownsRow (w.heap.size + 1) 5 1 (.slice va L vc) L (u8s out) from by rw [hw1]; exact HROW.out)
          have hs1 : w.heap.size + 1 ≤ w1.heap.size := by have := HX1.out.fr.size; rwa [World.size_alloc] at this
          clear hw1
          go_wp2_with (at_builtin; refine wpList_append_own_at _ rfl _ _ 30 rfl (w.heap.size + 1) 5 i0 (.int .u8 0) 1 1 Tryd.underlying30 hi hz0 hz1 hz2 rfl (by decide) (.slice va L vc) _ _ rfl (HROW1.out.alloc _) ⟨w1.heap.size, 0, none⟩ 1 1 [.int .u8 (c.toNat : Int)] rfl rfl (cell_one_new _ _ _) (by simp [Value.oneCell']) (by unfold maxLen; omega) (by omega) (by simp; omega) ?_; intro v7 w7 hown7 hgrow7 _ hblk7; rw [u8s_one] at hown7; have HI7 := Lib.hid (show CT w (q + n) (out ++ [c]) v7 w7 from ⟨by rw [List.length_append, HL.out]; exact hown7, by rw [List.length_append, HL.out]; simp; omega, (HX1.out.fr.alloc hs1 _).grown hgrow7 (by simp; omega) (fun j hj => (HROW1.out.lt j hj).1)⟩); clear hown7 hgrow7 hblk7)
          exact ⟨⟨q + n, out ++ [c], by omega, hkn, by go_num, HI7.out, HRES.out⟩, by simp [intOf]; omega⟩
    · rw [drop_end s (by omega), ct_nil] at hres
      have HRES := Lib.hid hres
      have r0 := blk_cellL HX.out.box 0
      have r1 := blk_cellL HX.out.box 1
      have r2 := blk_cellL HX.out.box 2
      have r3 := blk_cellL HX.out.box 3
      have g1 := blk_freeL HX.out.box
      clear hres
      go_wp2_with fail
      have hs4 := tok_set HX.out.box (.int .i64 0) (.string ⟨#[]⟩) (.int .i64 0) (.int .i64 0)
      have hs5 := tok_below HX.out.below (Nat.le_refl _) (.int .i64 0) (.string ⟨#[]⟩) (.int .i64 0) (.int .i64 0)
      clear r0 r1 r2 r3 g1
      generalize World.setCell (World.setCell (World.setCell (World.setCell _ _ _) _ _) _ _) _ _ = W4 at hs4 hs5 ⊢
      have f0 := blk_cellL hs4 0
      have f1 := blk_cellL hs4 1
      have f2 := blk_cellL hs4 2
      have f3 := blk_cellL hs4 3
      exact bodyPost_ret (v := .tuple #[.agg #[.int .i64 0, .string ⟨#[]⟩, .int .i64 0, .int .i64 0], .int .i64 0, .bool false]) (by simp [results, Tryd.results41, go_sem, f0, f1, f2, f3]) rfl ⟨by rw [← HRES.out]; rfl, hs5⟩
end Go.Proofs.YtphhokpbkcdljaaDoor
