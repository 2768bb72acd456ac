/- The contract of the document's Same on two rows of tokens. Conditions: none. -/
import Derived.Deep.RegionHeld3
import Derived.Test.YtphhokpbkcdljaaDoorLexPt
namespace Go.Proofs.YtphhokpbkcdljaaDoor
open Go Go.RowKit
/-- what of a token is compared -/
def TkB.key (p : Bool) (t : TkB) : Int × List UInt8 × Int × Int := (t.k, t.s.data.toList, t.n, if p = true then t.a else 0)
def sameT (p : Bool) (xs ys : List TkB) : Bool := decide (xs.map (TkB.key p) = ys.map (TkB.key p))
theorem sameT_len {p : Bool} {xs ys : List TkB} (h : xs.length ≠ ys.length) : sameT p xs ys = false := by
  unfold sameT
  rw [decide_eq_false_iff_not]
  intro q
  have := congrArg List.length q
  simp at this
  exact h this
theorem sameT_no {p : Bool} {xs ys : List TkB} {k : Nat} {x y : TkB} (hx : xs[k]? = some x) (hy : ys[k]? = some y) (h : x.key p ≠ y.key p) : sameT p xs ys = false := by
  unfold sameT
  rw [decide_eq_false_iff_not]
  intro q
  have := congrArg (·[k]?) q
  simp [hx, hy] at this
  exact h this
theorem sameT_yes {p : Bool} {xs ys : List TkB} (hl : xs.length = ys.length) (h : ∀ k, k < xs.length → ∀ x y, xs[k]? = some x → ys[k]? = some y → x.key p = y.key p) : sameT p xs ys = true := by
  unfold sameT
  rw [decide_eq_true_eq]
  apply List.ext_getElem?
  intro k
  by_cases hk : k < xs.length
  · simp only [List.getElem?_map, List.getElem?_eq_getElem hk, List.getElem?_eq_getElem (show k < ys.length by omega)]
    exact congrArg some (h k hk _ _ (List.getElem?_eq_getElem hk) (List.getElem?_eq_getElem (by omega)))
  · simp only [List.getElem?_map, List.getElem?_eq_none (show xs.length ≤ k by omega), List.getElem?_eq_none (show ys.length ≤ k by omega)]
theorem key_inj {p : Bool} {xk yk xn yn xa ya : Int} {xs ys : ByteArray} (h : TkB.key p ⟨xk, xs, xn, xa⟩ = TkB.key p ⟨yk, ys, yn, ya⟩) : xk = yk ∧ xs.toList = ys.toList ∧ xn = yn ∧ (p = true → xa = ya) := by
  unfold TkB.key at h
  simp only [Prod.mk.injEq] at h
  obtain ⟨h1, h2, h3, h4⟩ := h
  exact ⟨h1, by rw [Lib.toList_data, Lib.toList_data]; exact h2, h3, fun q => by rw [if_pos q, if_pos q] at h4; exact h4⟩
theorem key_mk {p : Bool} {xk yk xn yn xa ya : Int} {xs ys : ByteArray} (h1 : xk = yk) (h2 : xs.toList = ys.toList) (h3 : xn = yn) (h4 : p = true → xa = ya) : TkB.key p ⟨xk, xs, xn, xa⟩ = TkB.key p ⟨yk, ys, yn, ya⟩ := by
  unfold TkB.key
  rw [Lib.toList_data, Lib.toList_data] at h2
  simp only [Prod.mk.injEq]
  refine ⟨h1, h2, h3, ?_⟩
  by_cases q : p = true
  · rw [if_pos q, if_pos q]; exact h4 q
  · rw [if_neg q, if_neg q]
theorem same_next {p : Bool} {xs ys : List TkB} {k : Nat} {a b : TkB} (h : ∀ j, j < k → ∀ x y, xs[j]? = some x → ys[j]? = some y → x.key p = y.key p) (ha : xs[k]? = some a) (hb : ys[k]? = some b) (hk : a.key p = b.key p) :
    ∀ j, j < k + 1 → ∀ x y, xs[j]? = some x → ys[j]? = some y → x.key p = y.key p := by
  intro j hj x y hx hy
  by_cases e : j = k
  · subst e
    rw [ha] at hx
    rw [hb] at hy
    injection hx with hx
    injection hy with hy
    rw [← hx, ← hy]; exact hk
  · exact h j (by omega) x y hx hy
theorem two_blk {w W8 : World} {o o' : Obj} (h : World.drew (World.alloc (World.alloc w o) o') = W8) : W8.heap[w.heap.size]? = some o ∧ W8.heap[w.heap.size + 1]? = some o' ∧ Below w.heap.size w W8 := by
  subst h
  have h1 := heap_alloc_new w o
  have h2 := heap_alloc_new (w.alloc o) o'
  rw [World.size_alloc] at h2
  refine ⟨?_, h2, ((below_oneL w o).alloc (by rw [World.size_alloc]; omega) _).drew⟩
  show ((w.alloc o).alloc o').heap[w.heap.size]? = _
  rw [heap_alloc_old (w.alloc o) o']
  · exact h1
  · rw [World.size_alloc]; omega
set_option maxRecDepth 100000 in
set_option maxHeartbeats 8000000 in
theorem same_any (A B : Option Addr) (ca cb : Nat) (xs ys : List TkB) (p : Bool) (w : World) (hx : Tks w.heap.size w A xs) (hy : Tks w.heap.size w B ys) :
    Calls Tryd.prog 15 #[.slice A xs.length ca, .slice B ys.length cb, .bool p] w fun e w' => e = .returned (.bool (sameT p xs ys)) ∧ Below w.heap.size w w' := by
  by_cases hl : xs.length = ys.length
  · have hlB : ((xs.length : Int) != (ys.length : Int)) = false := by rw [bne_eq_false_iff_eq]; omega
    rw [← hl] at hlB ⊢
    have HX := Lib.hid (And.intro hx hy)
    have HL := Lib.hid hl
    have hf := hx.few
    obtain ⟨N, hN⟩ : ∃ N, xs.length = N := ⟨_, rfl⟩
    rw [hN] at hlB hf ⊢
    have HN := Lib.hid hN
    clear hl hx hy hN
    go_enter Tryd.func15, Tryd.ntmps15
    go_wp2_with fail
    go_loopw [7] (fun i wr => ∃ k : Nat, k ≤ N ∧ i = .int .i64 k ∧ Below w.heap.size w wr ∧ ∀ j, j < k → ∀ x y, xs[j]? = some x → ys[j]? = some y → x.key p = y.key p) (fun i _ => N - (intOf i).toNat)
    case atStart => exact ⟨0, Nat.zero_le _, rfl, Below.refl _ _, fun j hj => absurd hj (Nat.not_lt_zero _)⟩
    case round =>
      obtain ⟨k, hk, rfl, hb, hq⟩ := hrel
      have HB := Lib.hid (And.intro hb hq)
      clear hb hq
      by_cases hlt : k < N
      · obtain ⟨x, hkx⟩ : ∃ x, xs[k]? = some x := ⟨_, List.getElem?_eq_getElem (by rw [HN.out]; exact hlt)⟩
        obtain ⟨y, hky⟩ : ∃ y, ys[k]? = some y := ⟨_, List.getElem?_eq_getElem (by rw [← HL.out, HN.out]; exact hlt)⟩
        obtain ⟨g, off, rfl, hg, c0, c1, c2, c3⟩ := HX.out.1.cell k x hkx
        obtain ⟨g', off', rfl, hg', c4, c5, c6, c7⟩ := HX.out.2.cell k y hky
        have d0 := (HB.out.1.cell (p := ⟨g, _, none⟩) hg).trans c0
        have d1 := (HB.out.1.cell (p := ⟨g, _, none⟩) hg).trans c1
        have d2 := (HB.out.1.cell (p := ⟨g, _, none⟩) hg).trans c2
        have d3 := (HB.out.1.cell (p := ⟨g, _, none⟩) hg).trans c3
        have d4 := (HB.out.1.cell (p := ⟨g', _, none⟩) hg').trans c4
        have d5 := (HB.out.1.cell (p := ⟨g', _, none⟩) hg').trans c5
        have d6 := (HB.out.1.cell (p := ⟨g', _, none⟩) hg').trans c6
        have d7 := (HB.out.1.cell (p := ⟨g', _, none⟩) hg').trans c7
        have HK := Lib.hid (And.intro hkx hky)
        clear c0 c1 c2 c3 c4 c5 c6 c7 hg hg' hkx hky
        obtain ⟨xk, xs1, xn, xa⟩ := x
        obtain ⟨yk, ys1, yn, ya⟩ := y
        simp only at d0 d1 d2 d3 d4 d5 d6 d7
        go_wp2_with fail
        have n0 := World.new_ne wr _ d0
        have n4 := World.new_ne wr _ d4
        go_region_held3 (fun X => X.cell? ⟨g, off + k * 4, none⟩ = some (.int .i64 xk) ∧ X.cell? ⟨g, off + k * 4 + 1, none⟩ = some (.string xs1) ∧ X.cell? ⟨g, off + k * 4 + 2, none⟩ = some (.int .i64 xn) ∧ X.cell? ⟨g, off + k * 4 + 3, none⟩ = some (.int .i64 xa) ∧ X.cell? ⟨g', off' + k * 4, none⟩ = some (.int .i64 yk) ∧ X.cell? ⟨g', off' + k * 4 + 1, none⟩ = some (.string ys1) ∧ X.cell? ⟨g', off' + k * 4 + 2, none⟩ = some (.int .i64 yn) ∧ X.cell? ⟨g', off' + k * 4 + 3, none⟩ = some (.int .i64 ya)) (first | go_keep) (fail)
        · generalize hW8 : World.drew (World.alloc (World.alloc wr _) _) = W8
          have h2 := two_blk hW8
          clear hW8 n0 n4 d0 d1 d2 d3 d4 d5 d6 d7
          have HW := Lib.hid (And.intro h2 (HB.out.1.trans (h2.2.2.mono HB.out.1.size)))
          clear h2
          obtain ⟨B0, hB0⟩ : ∃ B0, wr.heap.size = B0 := ⟨_, rfl⟩
          rw [hB0] at HW ⊢
          obtain ⟨B1, hB1⟩ : ∃ B1, B0 + 1 = B1 := ⟨_, rfl⟩
          rw [hB1] at HW ⊢
          have HBB := Lib.hid (show B0 ≠ B1 from by omega)
          have HB0 := Lib.hid (show w.heap.size ≤ B0 ∧ w.heap.size ≤ B1 from by have := HB.out.1.size; omega)
          clear hB0 hB1
          have hbx := HW.out.1.1
          have hby := HW.out.1.2.1
          have HBX := Lib.hid hbx
          have HBY := Lib.hid hby
          clear hbx hby
          cases p
          · have f0 := blk_freeL HBX.out 3
            have f1 := blk_freeL HBY.out 3
            have e3 := blk_cellL HBX.out 3
            have e7 := blk_cellL HBY.out 3
            obtain ⟨W9, hW9⟩ : ∃ W9, (W8.setCell ⟨B0, 3, none⟩ (.int .i64 0)).setCell ⟨B1, 3, none⟩ (.int .i64 0) = W9 := ⟨_, rfl⟩
            have hz1 : (W8.setCell ⟨B0, 3, none⟩ (.int .i64 0)).heap[B1]? = some (.cells #[.int .i64 yk, .string ys1, .int .i64 yn, .int .i64 ya] 32 (0, 0)) := by
              show (W8.heap.modify B0 _)[B1]? = _
              rw [Array.getElem?_modify, if_neg HBB.out]; exact HBY.out
            have hz2 : W9.heap[B1]? = some (.cells #[.int .i64 yk, .string ys1, .int .i64 yn, .int .i64 0] 32 (0, 0)) := by
              rw [← hW9]
              have := blk_setL hz1 3 (.int .i64 0)
              simpa using this
            have hz3 : W9.heap[B0]? = some (.cells #[.int .i64 xk, .string xs1, .int .i64 xn, .int .i64 0] 32 (0, 0)) := by
              rw [← hW9]
              show ((W8.setCell ⟨B0, 3, none⟩ (.int .i64 0)).heap.modify B1 _)[B0]? = _
              rw [Array.getElem?_modify, if_neg (fun q => HBB.out q.symm)]
              have := blk_setL HBX.out 3 (.int .i64 0)
              simpa using this
            have hz4 : Below w.heap.size w W9 := by rw [← hW9]; exact (HW.out.2.setCell (p := ⟨B0, 3, none⟩) HB0.out.1 _).setCell (p := ⟨B1, 3, none⟩) HB0.out.2 _
            have e7' := blk_cellL hz1 3
            have f1' := blk_freeL hz1 3
            have HZ := Lib.hid (And.intro hz2 (And.intro hz3 hz4))
            clear hz1 hz2 hz3 hz4
            rw [← hW9] at HZ
            have g0 := blk_cellL HZ.out.2.1 0
            have g1 := blk_cellL HZ.out.2.1 1
            have g2 := blk_cellL HZ.out.2.1 2
            have g3 := blk_cellL HZ.out.2.1 3
            have g4 := blk_cellL HZ.out.1 0
            have g5 := blk_cellL HZ.out.1 1
            have g6 := blk_cellL HZ.out.1 2
            have g7 := blk_cellL HZ.out.1 3
            clear hW9
            go_wp2_with fail
            all_goals
              first
              | (go_ret; exact ⟨by rw [sameT_no HK.out.1 HK.out.2 (fun q => absurd (key_inj q).1 (by assumption))]; rfl, HZ.out.2.2⟩)
              | (go_ret; exact ⟨by rw [sameT_no HK.out.1 HK.out.2 (fun q => absurd (key_inj q).2.1 (by assumption))]; rfl, HZ.out.2.2⟩)
              | (go_ret; exact ⟨by rw [sameT_no HK.out.1 HK.out.2 (fun q => absurd (key_inj q).2.2.1 (by assumption))]; rfl, HZ.out.2.2⟩)
              | (go_ret; exact ⟨by rw [sameT_no HK.out.1 HK.out.2 (fun q => absurd ((key_inj q).2.2.2 rfl) (by assumption))]; rfl, HZ.out.2.2⟩)
              | skip
            go_roundw
            case rel => exact ⟨k + 1, hlt, by go_num, HZ.out.2.2, same_next HB.out.2 HK.out.1 HK.out.2 (key_mk (by assumption) (by assumption) (by assumption) (fun q => by cases q))⟩
            case measure => simp [intOf]; omega
          · have e0 := blk_cellL HBX.out 0
            have e1 := blk_cellL HBX.out 1
            have e2 := blk_cellL HBX.out 2
            have e3 := blk_cellL HBX.out 3
            have e4 := blk_cellL HBY.out 0
            have e5 := blk_cellL HBY.out 1
            have e6 := blk_cellL HBY.out 2
            have e7 := blk_cellL HBY.out 3
            go_wp2_with fail
            all_goals
              first
              | (go_ret; exact ⟨by rw [sameT_no HK.out.1 HK.out.2 (fun q => absurd (key_inj q).1 (by assumption))]; rfl, HW.out.2⟩)
              | (go_ret; exact ⟨by rw [sameT_no HK.out.1 HK.out.2 (fun q => absurd (key_inj q).2.1 (by assumption))]; rfl, HW.out.2⟩)
              | (go_ret; exact ⟨by rw [sameT_no HK.out.1 HK.out.2 (fun q => absurd (key_inj q).2.2.1 (by assumption))]; rfl, HW.out.2⟩)
              | (go_ret; exact ⟨by rw [sameT_no HK.out.1 HK.out.2 (fun q => absurd ((key_inj q).2.2.2 rfl) (by assumption))]; rfl, HW.out.2⟩)
              | skip
            go_roundw
            case rel => exact ⟨k + 1, hlt, by go_num, HW.out.2, same_next HB.out.2 HK.out.1 HK.out.2 (key_mk (by assumption) (by assumption) (by assumption) (fun _ => by assumption))⟩
            case measure => simp [intOf]; omega
        · generalize hW8 : World.drew (World.alloc (World.alloc wr _) _) = W8
          have h2 := two_blk hW8
          clear hW8 n0 n4 d0 d1 d2 d3 d4 d5 d6 d7
          have HW := Lib.hid (And.intro h2 (HB.out.1.trans (h2.2.2.mono HB.out.1.size)))
          clear h2
          obtain ⟨B0, hB0⟩ : ∃ B0, wr.heap.size = B0 := ⟨_, rfl⟩
          rw [hB0] at HW ⊢
          obtain ⟨B1, hB1⟩ : ∃ B1, B0 + 1 = B1 := ⟨_, rfl⟩
          rw [hB1] at HW ⊢
          have HBB := Lib.hid (show B0 ≠ B1 from by omega)
          have HB0 := Lib.hid (show w.heap.size ≤ B0 ∧ w.heap.size ≤ B1 from by have := HB.out.1.size; omega)
          clear hB0 hB1
          have hbx := HW.out.1.2.1
          have hby := HW.out.1.1
          have HBX := Lib.hid hbx
          have HBY := Lib.hid hby
          clear hbx hby
          cases p
          · have f0 := blk_freeL HBX.out 3
            have f1 := blk_freeL HBY.out 3
            have e3 := blk_cellL HBX.out 3
            have e7 := blk_cellL HBY.out 3
            obtain ⟨W9, hW9⟩ : ∃ W9, (W8.setCell ⟨B1, 3, none⟩ (.int .i64 0)).setCell ⟨B0, 3, none⟩ (.int .i64 0) = W9 := ⟨_, rfl⟩
            have hz1 : (W8.setCell ⟨B1, 3, none⟩ (.int .i64 0)).heap[B0]? = some (.cells #[.int .i64 yk, .string ys1, .int .i64 yn, .int .i64 ya] 32 (0, 0)) := by
              show (W8.heap.modify B1 _)[B0]? = _
              rw [Array.getElem?_modify, if_neg (fun q => HBB.out q.symm)]; exact HBY.out
            have hz2 : W9.heap[B0]? = some (.cells #[.int .i64 yk, .string ys1, .int .i64 yn, .int .i64 0] 32 (0, 0)) := by
              rw [← hW9]
              have := blk_setL hz1 3 (.int .i64 0)
              simpa using this
            have hz3 : W9.heap[B1]? = some (.cells #[.int .i64 xk, .string xs1, .int .i64 xn, .int .i64 0] 32 (0, 0)) := by
              rw [← hW9]
              show ((W8.setCell ⟨B1, 3, none⟩ (.int .i64 0)).heap.modify B0 _)[B1]? = _
              rw [Array.getElem?_modify, if_neg HBB.out]
              have := blk_setL HBX.out 3 (.int .i64 0)
              simpa using this
            have hz4 : Below w.heap.size w W9 := by rw [← hW9]; exact (HW.out.2.setCell (p := ⟨B1, 3, none⟩) HB0.out.2 _).setCell (p := ⟨B0, 3, none⟩) HB0.out.1 _
            have e7' := blk_cellL hz1 3
            have f1' := blk_freeL hz1 3
            have HZ := Lib.hid (And.intro hz2 (And.intro hz3 hz4))
            clear hz1 hz2 hz3 hz4
            rw [← hW9] at HZ
            have g0 := blk_cellL HZ.out.2.1 0
            have g1 := blk_cellL HZ.out.2.1 1
            have g2 := blk_cellL HZ.out.2.1 2
            have g3 := blk_cellL HZ.out.2.1 3
            have g4 := blk_cellL HZ.out.1 0
            have g5 := blk_cellL HZ.out.1 1
            have g6 := blk_cellL HZ.out.1 2
            have g7 := blk_cellL HZ.out.1 3
            clear hW9
            go_wp2_with fail
            all_goals
              first
              | (go_ret; exact ⟨by rw [sameT_no HK.out.1 HK.out.2 (fun q => absurd (key_inj q).1 (by assumption))]; rfl, HZ.out.2.2⟩)
              | (go_ret; exact ⟨by rw [sameT_no HK.out.1 HK.out.2 (fun q => absurd (key_inj q).2.1 (by assumption))]; rfl, HZ.out.2.2⟩)
              | (go_ret; exact ⟨by rw [sameT_no HK.out.1 HK.out.2 (fun q => absurd (key_inj q).2.2.1 (by assumption))]; rfl, HZ.out.2.2⟩)
              | (go_ret; exact ⟨by rw [sameT_no HK.out.1 HK.out.2 (fun q => absurd ((key_inj q).2.2.2 rfl) (by assumption))]; rfl, HZ.out.2.2⟩)
              | skip
            go_roundw
            case rel => exact ⟨k + 1, hlt, by go_num, HZ.out.2.2, same_next HB.out.2 HK.out.1 HK.out.2 (key_mk (by assumption) (by assumption) (by assumption) (fun q => by cases q))⟩
            case measure => simp [intOf]; omega
          · have e0 := blk_cellL HBX.out 0
            have e1 := blk_cellL HBX.out 1
            have e2 := blk_cellL HBX.out 2
            have e3 := blk_cellL HBX.out 3
            have e4 := blk_cellL HBY.out 0
            have e5 := blk_cellL HBY.out 1
            have e6 := blk_cellL HBY.out 2
            have e7 := blk_cellL HBY.out 3
            go_wp2_with fail
            all_goals
              first
              | (go_ret; exact ⟨by rw [sameT_no HK.out.1 HK.out.2 (fun q => absurd (key_inj q).1 (by assumption))]; rfl, HW.out.2⟩)
              | (go_ret; exact ⟨by rw [sameT_no HK.out.1 HK.out.2 (fun q => absurd (key_inj q).2.1 (by assumption))]; rfl, HW.out.2⟩)
              | (go_ret; exact ⟨by rw [sameT_no HK.out.1 HK.out.2 (fun q => absurd (key_inj q).2.2.1 (by assumption))]; rfl, HW.out.2⟩)
              | (go_ret; exact ⟨by rw [sameT_no HK.out.1 HK.out.2 (fun q => absurd ((key_inj q).2.2.2 rfl) (by assumption))]; rfl, HW.out.2⟩)
              | skip
            go_roundw
            case rel => exact ⟨k + 1, hlt, by go_num, HW.out.2, same_next HB.out.2 HK.out.1 HK.out.2 (key_mk (by assumption) (by assumption) (by assumption) (fun _ => by assumption))⟩
            case measure => simp [intOf]; omega
      · have hke : k = N := by omega
        subst hke
        have HR := Lib.hid (sameT_yes (p := p) HL.out (by rw [HN.out]; exact HB.out.2))
        clear hlt
        go_wp2_with fail
        go_ret
        exact ⟨by rw [HR.out]; rfl, HB.out.1⟩
  · have hlB : ((xs.length : Int) != (ys.length : Int)) = true := by rw [bne_iff_ne]; omega
    have HR := Lib.hid (sameT_len (p := p) hl)
    clear hl
    go_enter Tryd.func15, Tryd.ntmps15
    go_wp2_with fail
    go_ret
    exact ⟨by rw [HR.out]; rfl, Below.refl _ _⟩
end Go.Proofs.YtphhokpbkcdljaaDoor
