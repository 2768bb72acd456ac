/- The contract of the document's Token: the token whose text is just this one. Condition: the text has no more than a million bytes. -/
import Derived.Test.YtphhokpbkcdljaaDoorLexQ
import Derived.Test.YtphhokpbkcdljaaDoorLexW
namespace Go.Proofs.YtphhokpbkcdljaaDoor
open Go Go.RowKit
def tokA (t : Tok) (at_ : Int) : Value := .agg #[.int .i64 (t.kind : Int), .string ⟨t.text.toArray⟩, .int .i64 (t.num : Int), .int .i64 at_]
def tokNil : Value := .agg #[.int .i64 0, .string ⟨#[]⟩, .int .i64 0, .int .i64 0]
theorem blk_setL {W : World} {B : Nat} {cs : Array Value} {t : TypeId} (h : W.heap[B]? = some (.cells cs t (0, 0))) (j : Nat) (v : Value) : (W.setCell ⟨B, j, none⟩ v).heap[B]? = some (.cells (cs.setIfInBounds j v) t (0, 0)) := by
  show (W.heap.modify B _)[B]? = _
  rw [Array.getElem?_modify, if_pos rfl, h]
  rfl
theorem blk_cellL {W : World} {B : Nat} {cs : Array Value} {t : TypeId} (h : W.heap[B]? = some (.cells cs t (0, 0))) (j : Nat) : W.cell? ⟨B, j, none⟩ = cs[j]? := by simp [World.cell?, h]
theorem blk_freeL {W : World} {B : Nat} {cs : Array Value} {t : TypeId} (h : W.heap[B]? = some (.cells cs t (0, 0))) (j : Nat) : W.frozen? ⟨B, j, none⟩ = false := by simp [World.frozen?, h]
theorem tok_set {W0 : World} {B : Nat} {T : TypeId} {x0 x1 x2 x3 : Value} (h : W0.heap[B]? = some (.cells #[x0, x1, x2, x3] T (0, 0))) (y0 y1 y2 y3 : Value) :
    ((((W0.setCell ⟨B, 0, none⟩ y0).setCell ⟨B, 1, none⟩ y1).setCell ⟨B, 2, none⟩ y2).setCell ⟨B, 3, none⟩ y3).heap[B]? = some (.cells #[y0, y1, y2, y3] T (0, 0)) := by
  have := blk_setL (blk_setL (blk_setL (blk_setL h 0 y0) 1 y1) 2 y2) 3 y3
  simpa using this
theorem tok_below {w W0 : World} {B : Nat} (h : Below w.heap.size w W0) (hB : w.heap.size ≤ B) (y0 y1 y2 y3 : Value) :
    Below w.heap.size w ((((W0.setCell ⟨B, 0, none⟩ y0).setCell ⟨B, 1, none⟩ y1).setCell ⟨B, 2, none⟩ y2).setCell ⟨B, 3, none⟩ y3) :=
  (((h.setCell (p := ⟨B, 0, none⟩) hB _).setCell (p := ⟨B, 1, none⟩) hB _).setCell (p := ⟨B, 2, none⟩) hB _).setCell (p := ⟨B, 3, none⟩) hB _
def tokV (o : Option Tok) : Value := match o with
  | some t => .tuple #[tokA t 0, .bool true]
  | none => .tuple #[tokNil, .bool false]
theorem below_oneL (w : World) (o : Obj) : Below w.heap.size w (w.alloc o) := (Below.refl _ w).alloc (Nat.le_refl _) o
/-- the box of the result stays -/
theorem box_stay {w w1 : World} {o : Obj} (hb : Below (w.alloc o).heap.size (w.alloc o) w1) : w1.heap[w.heap.size]? = some o :=
  (hb.block _ (by rw [World.size_alloc]; omega)).trans (heap_alloc_new w o)
theorem quotedL_hd {c : UInt8} {r : List UInt8} {t : List UInt8} (h : quotedL (c :: r) = some t) : c.toNat = 34 := by
  by_cases q : c.toNat = 34
  · exact q
  · rw [quotedL_no q] at h; cases h
set_option maxRecDepth 100000 in
set_option maxHeartbeats 16000000 in
theorem ref_token (s : ByteArray) (hs : s.size ≤ 1000000) (w : World) :
    Calls Tryd.prog 29 #[.string s] w fun e w' => e = .returned (tokV (tokL s.data.toList)) ∧ Below w.heap.size w w' := by
  have HN := Lib.hid (ref_number s (by omega))
  have hnv : numV s.data.toList = match numL s.data.toList with
    | some n => (n, true)
    | none => (0, false) := rfl
  have hs1 : s.size ≤ 140737488351232 := by omega
  have HQ := Lib.hid (ref_quoted s hs)
  obtain ⟨res, hr⟩ : ∃ res, tokV (tokL s.data.toList) = res := ⟨_, rfl⟩
  rw [hr]
  unfold tokL at hr
  have HBX := Lib.hid (below_oneL w (.cells #[.int .i64 0, .string ⟨#[]⟩, .int .i64 0, .int .i64 0] 32))
  cases en : numL s.data.toList with
  | some n =>
    rw [en] at hr hnv
    simp only at hr hnv
    rw [hnv] at HN
    have HN2 := Lib.hid (show ∀ W1, Calls _ _ _ W1 (fun e w' => e = .returned (.tuple #[.int .i64 (n : Int), .bool true]) ∧ w' = W1) from HN.out)
    have HR := Lib.hid hr
    clear en hr hnv HN HQ
    go_enter Tryd.func29, Tryd.ntmps29
    go_wp2_with fail
    refine (HN2.out _).mono ?_
    rintro e w1 ⟨rfl, hw1⟩
    subst w1
    go_wp2_with fail
    have hb1 := heap_alloc_new w (.cells #[.int .i64 1, .string ⟨#[]⟩, .int .i64 (n : Int), .int .i64 0] 32)
    have hb2 := below_oneL w (.cells #[.int .i64 1, .string ⟨#[]⟩, .int .i64 (n : Int), .int .i64 0] 32)
    have f0 := blk_cellL hb1 0
    have f1 := blk_cellL hb1 1
    have f2 := blk_cellL hb1 2
    have f3 := blk_cellL hb1 3
    exact bodyPost_ret (v := .tuple #[.agg #[.int .i64 1, .string ⟨#[]⟩, .int .i64 (n : Int), .int .i64 0], .bool true]) (by simp [results, Tryd.results29, go_sem, f0, f1, f2, f3]) rfl ⟨by rw [← HR.out]; rfl, hb2⟩
  | none =>
    rw [en] at hr hnv
    simp only at hr hnv
    rw [hnv] at HN
    have HN2 := Lib.hid (show ∀ W1, Calls _ _ _ W1 (fun e w' => e = .returned (.tuple #[.int .i64 0, .bool false]) ∧ w' = W1) from HN.out)
    clear en hnv HN
    cases eq : quotedL s.data.toList with
    | some t =>
      rw [eq] at hr
      simp only at hr
      have HQ2 := Lib.hid (show ∀ W1, Calls _ _ _ W1 (fun e w' => e = .returned (.tuple #[.string ⟨t.toArray⟩, .bool true]) ∧ Below W1.heap.size W1 w') from fun W1 => (HQ.out W1).mono fun e w' ⟨h1, h2⟩ => And.intro (by
        rcases h1 with ⟨t', h3, h4⟩ | ⟨h3, _⟩
        · rw [eq] at h3; injection h3 with h3; rw [h4, h3]
        · rw [eq] at h3; cases h3) h2)
      have HR := Lib.hid hr
      clear hr eq HQ
      go_enter Tryd.func29, Tryd.ntmps29
      go_wp2_with fail
      refine (HN2.out _).mono ?_
      rintro e w1 ⟨rfl, hw1⟩
      subst w1
      go_wp2_with fail
      refine (HQ2.out _).mono ?_
      rintro e w1 ⟨rfl, hb1⟩
      have hbx := box_stay hb1
      have hbb := HBX.out.trans (hb1.mono HBX.out.size)
      have HC := Lib.hid (And.intro hbx hbb)
      have e0 := blk_cellL hbx 0
      have e1 := blk_cellL hbx 1
      have e2 := blk_cellL hbx 2
      have e3 := blk_cellL hbx 3
      have g0 := blk_freeL hbx
      clear hb1 hbx hbb
      go_wp2_with fail
      have hb1 := tok_set HC.out.1 (.int .i64 2) (.string ⟨t.toArray⟩) (.int .i64 0) (.int .i64 0)
      have hb2 := tok_below HC.out.2 (Nat.le_refl _) (.int .i64 2) (.string ⟨t.toArray⟩) (.int .i64 0) (.int .i64 0)
      generalize World.setCell (World.setCell (World.setCell (World.setCell _ _ _) _ _) _ _) _ _ = W4 at hb1 hb2 ⊢
      have f0 := blk_cellL hb1 0
      have f1 := blk_cellL hb1 1
      have f2 := blk_cellL hb1 2
      have f3 := blk_cellL hb1 3
      exact bodyPost_ret (v := .tuple #[.agg #[.int .i64 2, .string ⟨t.toArray⟩, .int .i64 0, .int .i64 0], .bool true]) (by simp [results, Tryd.results29, go_sem, f0, f1, f2, f3]) rfl ⟨by rw [← HR.out]; rfl, hb2⟩
    | none =>
      rw [eq] at hr
      simp only at hr
      have HQ2 := Lib.hid (show ∀ W1, Calls _ _ _ W1 (fun e w' => (∃ x : ByteArray, e = .returned (.tuple #[.string x, .bool false])) ∧ Below W1.heap.size W1 w') from fun W1 => (HQ.out W1).mono fun e w' ⟨h1, h2⟩ => And.intro (by
        rcases h1 with ⟨t', h3, h4⟩ | ⟨h3, h4⟩
        · rw [eq] at h3; cases h3
        · exact h4) h2)
      clear eq HQ
      have HW := Lib.hid (ref_word s hs1)
      have HT := Lib.hid (ref_tvar s hs1)
      obtain ⟨bw, hbw⟩ : ∃ b, wordL s.data.toList = b := ⟨_, rfl⟩
      rw [hbw] at HW hr
      cases bw with
      | true =>
        rw [if_pos rfl] at hr
        have h0 : 0 < s.size := by
          cases hl : s.data.toList with
          | nil => rw [hl] at hbw; cases hbw
          | cons c r => rw [← len_data, hl]; simp
        have HK := Lib.hid (ref_wordkind s h0)
        have hrr : (.tuple #[.agg #[.int .i64 (kindW s.data.toList : Nat), .string s, .int .i64 0, .int .i64 0], .bool true] : Value) = res := by
          rw [← hr]
          show _ = Value.tuple #[.agg #[_, .string ⟨s.data.toList.toArray⟩, _, _], _]
          rw [show (⟨s.data.toList.toArray⟩ : ByteArray) = s from by cases s; simp]
          rfl
        obtain ⟨K, hK⟩ : ∃ K : Nat, kindW s.data.toList = K := ⟨_, rfl⟩
        rw [hK] at HK hrr
        have HR := Lib.hid hrr
        clear hr hbw hrr hK h0 HT
        go_enter Tryd.func29, Tryd.ntmps29
        go_wp2_with fail
        refine (HN2.out _).mono ?_
        rintro e w1 ⟨rfl, hw1⟩
        subst w1
        go_wp2_with fail
        refine (HQ2.out _).mono ?_
        rintro e w1 ⟨⟨x, rfl⟩, hb1⟩
        have HB1 := Lib.hid hb1
        clear hb1
        go_wp2_with fail
        refine (HW.out _).mono ?_
        rintro e w1 ⟨rfl, hw1⟩
        subst w1
        go_wp2_with fail
        refine (HK.out _).mono ?_
        rintro e w2 ⟨rfl, hb2⟩
        have hb1 := HB1.out.trans (hb2.mono HB1.out.size)
        have hbx := box_stay hb1
        have hbb := HBX.out.trans (hb1.mono HBX.out.size)
        have HC := Lib.hid (And.intro hbx hbb)
        have e0 := blk_cellL hbx 0
        have e1 := blk_cellL hbx 1
        have e2 := blk_cellL hbx 2
        have e3 := blk_cellL hbx 3
        have g0 := blk_freeL hbx
        clear hb1 hbx hbb hb2
        go_wp2_with fail
        have hb1 := tok_set HC.out.1 (.int .i64 (K : Int)) (.string s) (.int .i64 0) (.int .i64 0)
        have hb2 := tok_below HC.out.2 (Nat.le_refl _) (.int .i64 (K : Int)) (.string s) (.int .i64 0) (.int .i64 0)
        generalize World.setCell (World.setCell (World.setCell (World.setCell _ _ _) _ _) _ _) _ _ = W4 at hb1 hb2 ⊢
        have f0 := blk_cellL hb1 0
        have f1 := blk_cellL hb1 1
        have f2 := blk_cellL hb1 2
        have f3 := blk_cellL hb1 3
        exact bodyPost_ret (v := .tuple #[.agg #[.int .i64 (K : Int), .string s, .int .i64 0, .int .i64 0], .bool true]) (by simp [results, Tryd.results29, go_sem, f0, f1, f2, f3]) rfl ⟨by rw [← HR.out], hb2⟩
      | false =>
        rw [if_neg (by simp)] at hr
        obtain ⟨bt, hbt⟩ : ∃ b, tvarL s.data.toList = b := ⟨_, rfl⟩
        rw [hbt] at HT hr
        have hself : (⟨s.data.toList.toArray⟩ : ByteArray) = s := by cases s; simp
        cases bt with
        | true =>
          rw [if_pos rfl] at hr
          have hrr : (.tuple #[.agg #[.int .i64 5, .string s, .int .i64 0, .int .i64 0], .bool true] : Value) = res := by
            rw [← hr]
            show _ = Value.tuple #[.agg #[_, .string ⟨s.data.toList.toArray⟩, _, _], _]
            rw [hself]
            rfl
          have HR := Lib.hid hrr
          clear hr hbw hrr hbt hself
          go_enter Tryd.func29, Tryd.ntmps29
          go_wp2_with fail
          refine (HN2.out _).mono ?_
          rintro e w1 ⟨rfl, hw1⟩
          subst w1
          go_wp2_with fail
          refine (HQ2.out _).mono ?_
          rintro e w1 ⟨⟨x, rfl⟩, hb1⟩
          have hbx := box_stay hb1
          have hbb := HBX.out.trans (hb1.mono HBX.out.size)
          have HC := Lib.hid (And.intro hbx hbb)
          have e0 := blk_cellL hbx 0
          have e1 := blk_cellL hbx 1
          have e2 := blk_cellL hbx 2
          have e3 := blk_cellL hbx 3
          have g0 := blk_freeL hbx
          clear hb1 hbx hbb
          go_wp2_with fail
          refine (HW.out _).mono ?_
          rintro e w1 ⟨rfl, hw1⟩
          subst w1
          go_wp2_with fail
          refine (HT.out _).mono ?_
          rintro e w1 ⟨rfl, hw1⟩
          subst w1
          go_wp2_with fail
          have hb1 := tok_set HC.out.1 (.int .i64 5) (.string s) (.int .i64 0) (.int .i64 0)
          have hb2 := tok_below HC.out.2 (Nat.le_refl _) (.int .i64 5) (.string s) (.int .i64 0) (.int .i64 0)
          generalize World.setCell (World.setCell (World.setCell (World.setCell _ _ _) _ _) _ _) _ _ = W4 at hb1 hb2 ⊢
          have f0 := blk_cellL hb1 0
          have f1 := blk_cellL hb1 1
          have f2 := blk_cellL hb1 2
          have f3 := blk_cellL hb1 3
          exact bodyPost_ret (v := .tuple #[.agg #[.int .i64 5, .string s, .int .i64 0, .int .i64 0], .bool true]) (by simp [results, Tryd.results29, go_sem, f0, f1, f2, f3]) rfl ⟨by rw [← HR.out], hb2⟩
        | false =>
          rw [if_neg (by simp)] at hr
          have HS := Lib.hid ref_signs
          by_cases hsg : s.data.toList ∈ signsL
          · rw [if_pos hsg] at hr
            have hrr : (.tuple #[.agg #[.int .i64 7, .string s, .int .i64 0, .int .i64 0], .bool true] : Value) = res := by
              rw [← hr]
              show _ = Value.tuple #[.agg #[_, .string ⟨s.data.toList.toArray⟩, _, _], _]
              rw [hself]
              rfl
            have HR := Lib.hid hrr
            have HH := Lib.hid (fun (W1 : World) (a : Option Addr) (h : SV W1 a 22 signsL) => show Calls _ _ _ W1 (fun e w' => e = .returned (.bool true) ∧ w' = W1) from (ref_has (c := 22) h s).mono fun e w' ⟨h1, h2⟩ => ⟨by rw [h1, decide_eq_true hsg], h2⟩)
            clear hr hbw hrr hbt hself hsg
            go_enter Tryd.func29, Tryd.ntmps29
            go_wp2_with fail
            refine (HN2.out _).mono ?_
            rintro e w1 ⟨rfl, hw1⟩
            subst w1
            go_wp2_with fail
            refine (HQ2.out _).mono ?_
            rintro e w1 ⟨⟨x, rfl⟩, hb1⟩
            have HB1 := Lib.hid hb1
            clear hb1
            go_wp2_with fail
            refine (HW.out _).mono ?_
            rintro e w1 ⟨rfl, hw1⟩
            subst w1
            go_wp2_with fail
            refine (HT.out _).mono ?_
            rintro e w1 ⟨rfl, hw1⟩
            subst w1
            go_wp2_with fail
            refine (HS.out _).mono ?_
            rintro e w2 ⟨rfl, hsv, hb2⟩
            have hb1 := HB1.out.trans (hb2.mono HB1.out.size)
            have hbx := box_stay hb1
            have hbb := HBX.out.trans (hb1.mono HBX.out.size)
            have HC := Lib.hid (And.intro hbx hbb)
            have HSV := Lib.hid hsv
            have e0 := blk_cellL hbx 0
            have e1 := blk_cellL hbx 1
            have e2 := blk_cellL hbx 2
            have e3 := blk_cellL hbx 3
            have g0 := blk_freeL hbx
            clear hb1 hbx hbb hb2 hsv
            go_wp2_with fail
            refine (HH.out _ _ HSV.out).mono ?_
            rintro e w1 ⟨rfl, hw1⟩
            subst w1
            go_wp2_with fail
            have hb1 := tok_set HC.out.1 (.int .i64 7) (.string s) (.int .i64 0) (.int .i64 0)
            have hb2 := tok_below HC.out.2 (Nat.le_refl _) (.int .i64 7) (.string s) (.int .i64 0) (.int .i64 0)
            generalize World.setCell (World.setCell (World.setCell (World.setCell _ _ _) _ _) _ _) _ _ = W4 at hb1 hb2 ⊢
            have f0 := blk_cellL hb1 0
            have f1 := blk_cellL hb1 1
            have f2 := blk_cellL hb1 2
            have f3 := blk_cellL hb1 3
            exact bodyPost_ret (v := .tuple #[.agg #[.int .i64 7, .string s, .int .i64 0, .int .i64 0], .bool true]) (by simp [results, Tryd.results29, go_sem, f0, f1, f2, f3]) rfl ⟨by rw [← HR.out], hb2⟩
          · rw [if_neg hsg] at hr
            have HR := Lib.hid hr
            have HH := Lib.hid (fun (W1 : World) (a : Option Addr) (h : SV W1 a 22 signsL) => show Calls _ _ _ W1 (fun e w' => e = .returned (.bool false) ∧ w' = W1) from (ref_has (c := 22) h s).mono fun e w' ⟨h1, h2⟩ => ⟨by rw [h1, decide_eq_false hsg], h2⟩)
            clear hr hbw hbt hself hsg
            go_enter Tryd.func29, Tryd.ntmps29
            go_wp2_with fail
            refine (HN2.out _).mono ?_
            rintro e w1 ⟨rfl, hw1⟩
            subst w1
            go_wp2_with fail
            refine (HQ2.out _).mono ?_
            rintro e w1 ⟨⟨x, rfl⟩, hb1⟩
            have HB1 := Lib.hid hb1
            clear hb1
            go_wp2_with fail
            refine (HW.out _).mono ?_
            rintro e w1 ⟨rfl, hw1⟩
            subst w1
            go_wp2_with fail
            refine (HT.out _).mono ?_
            rintro e w1 ⟨rfl, hw1⟩
            subst w1
            go_wp2_with fail
            refine (HS.out _).mono ?_
            rintro e w2 ⟨rfl, hsv, hb2⟩
            have hb1 := HB1.out.trans (hb2.mono HB1.out.size)
            have hbx := box_stay hb1
            have hbb := HBX.out.trans (hb1.mono HBX.out.size)
            have HC := Lib.hid (And.intro hbx hbb)
            have HSV := Lib.hid hsv
            have e0 := blk_cellL hbx 0
            have e1 := blk_cellL hbx 1
            have e2 := blk_cellL hbx 2
            have e3 := blk_cellL hbx 3
            have g0 := blk_freeL hbx
            clear hb1 hbx hbb hb2 hsv
            go_wp2_with fail
            refine (HH.out _ _ HSV.out).mono ?_
            rintro e w1 ⟨rfl, hw1⟩
            subst w1
            go_wp2_with fail
            have hb1 := tok_set HC.out.1 (.int .i64 0) (.string ⟨#[]⟩) (.int .i64 0) (.int .i64 0)
            have hb2 := tok_below HC.out.2 (Nat.le_refl _) (.int .i64 0) (.string ⟨#[]⟩) (.int .i64 0) (.int .i64 0)
            generalize World.setCell (World.setCell (World.setCell (World.setCell _ _ _) _ _) _ _) _ _ = W4 at hb1 hb2 ⊢
            have f0 := blk_cellL hb1 0
            have f1 := blk_cellL hb1 1
            have f2 := blk_cellL hb1 2
            have f3 := blk_cellL hb1 3
            exact bodyPost_ret (v := .tuple #[.agg #[.int .i64 0, .string ⟨#[]⟩, .int .i64 0, .int .i64 0], .bool false]) (by simp [results, Tryd.results29, go_sem, f0, f1, f2, f3]) rfl ⟨by rw [← HR.out]; rfl, hb2⟩
end Go.Proofs.YtphhokpbkcdljaaDoor
