/- The walk of the statement RtsMakers: it returns true. Conditions: none. -/
import Derived.Test.YtlakfnlkiebpdaaDoorRtsMt
import Derived.Test.YtlakfnlkiebpdaaDoorRtsTwo
namespace Go.Proofs.YtlakfnlkiebpdaaDoor
open Go Go.RowKit
/-- a block's cells may change, not how many there are -/
theorem set_blkT {w : World} {B j C : Nat} {v : Value} {cs : Array Value} {t : TypeId} (h : w.heap[C]? = some (.cells cs t (0, 0))) : ∃ cs', (w.setCell ⟨B, j, none⟩ v).heap[C]? = some (.cells cs' t (0, 0)) ∧ cs'.size = cs.size := by
  by_cases e : B = C
  · subst e; exact ⟨_, blk_set h j v, by simp⟩
  · refine ⟨cs, ?_, rfl⟩
    rw [← h]
    show (w.heap.modify B _)[C]? = _
    rw [Array.getElem?_modify, if_neg e]
theorem OwnU.set {w : World} {b : Nat} {u : Value} (h : OwnU w b u) (B j : Nat) (v : Value) : OwnU (w.setCell ⟨B, j, none⟩ v) b u := by
  rcases h with h | ⟨g, n, cap, cs, h1, hg, h2, h3, h4, h5⟩
  · exact .inl h
  · obtain ⟨cs', h6, h7⟩ := set_blkT (B := B) (j := j) (v := v) h4
    exact .inr ⟨g, n, cap, cs', h1, hg, h2, h3, h6, by omega⟩
/-- the shape of what Makers gave -/
structure Sh (w : World) (b g : Nat) (fa ft : Nat → Value) : Prop where
  le : b ≤ g
  blk : ∃ cs, w.heap[g]? = some (.cells cs 73 (0, 0)) ∧ 120 ≤ cs.size
  ca : ∀ i, i < 10 → w.cell? ⟨g, i * 12 + 7, none⟩ = some (fa i)
  ct : ∀ i, i < 10 → w.cell? ⟨g, i * 12 + 11, none⟩ = some (ft i)
  oa : ∀ i, i < 10 → OwnU w b (fa i)
  ot : ∀ i, i < 10 → OwnU w b (ft i)
theorem cell_other {w : World} {B C j k : Nat} {v : Value} (h : B ≠ C ∨ j ≠ k) : (w.setCell ⟨B, j, none⟩ v).cell? ⟨C, k, none⟩ = w.cell? ⟨C, k, none⟩ := by
  by_cases e : B = C
  · subst e
    have hj : j ≠ k := h.resolve_left (fun q => q rfl)
    exact World.cell?_setCell_other _ _ _ _ (fun q => hj (congrArg Addr.off q))
  · exact World.cell?_setCell_other _ _ _ _ (fun q => e (congrArg Addr.block q))
theorem Sh.set {w : World} {b g : Nat} {fa ft : Nat → Value} (h : Sh w b g fa ft) (B j : Nat) (v : Value) (hj : B ≠ g ∨ j % 12 = 0) : Sh (w.setCell ⟨B, j, none⟩ v) b g fa ft := by
  obtain ⟨h0, ⟨cs, h1, h2⟩, h3, h4, h5, h6⟩ := h
  obtain ⟨cs', q1, q2⟩ := set_blkT (B := B) (j := j) (v := v) h1
  refine ⟨h0, ⟨cs', q1, by omega⟩, fun i hi => ?_, fun i hi => ?_, fun i hi => (h5 i hi).set _ _ _, fun i hi => (h6 i hi).set _ _ _⟩
  · rw [cell_other (hj.imp id fun q => by omega)]; exact h3 i hi
  · rw [cell_other (hj.imp id fun q => by omega)]; exact h4 i hi
theorem own_u {w : World} {b : Nat} {u : Value} (h : OwnU w b u) : ∃ A n cap, u = .slice A n cap ∧ n ≤ cap ∧ cap ≤ 1000000 ∧ (0 < n → ∃ g cs, A = some ⟨g, 0, none⟩ ∧ b ≤ g ∧ w.heap[g]? = some (.cells cs 61 (0, 0)) ∧ n * 4 ≤ cs.size) := by
  rcases h with h | ⟨g, n, cap, cs, h1, hg, h2, h3, h4, h5⟩
  · exact ⟨none, 0, 0, h, Nat.le_refl _, by omega, fun q => absurd q (by omega)⟩
  · exact ⟨_, n, cap, h1, h2, h3, fun _ => ⟨g, cs, rfl, hg, h4, h5⟩⟩
theorem sh_of {w : World} {b : Nat} {v U1 U2 U3 : Value} (m : Mkd w b v U1 U2 U3 6) : ∃ g cap fa ft, v = .slice (some ⟨g, 0, none⟩) 10 cap ∧ 10 ≤ cap ∧ cap ≤ maxLen ∧ Sh w b g fa ft := by
  have hb : ∀ k, v.ownBlock = some k → b ≤ k := fun k hk => (m.1.lt k hk).1
  obtain ⟨g, cap, rfl, h1, h2, hbk, hc⟩ := mkd_form m
  have hr : ∀ i, ∃ ua ut, i < 10 → w.cell? ⟨g, i * 12 + 7, none⟩ = some ua ∧ w.cell? ⟨g, i * 12 + 11, none⟩ = some ut ∧ OwnU w b ua ∧ OwnU w b ut := fun i => by
    by_cases hi : i < 10
    · obtain ⟨s, tag, has, vars, a, t, hrow⟩ := row_of i hi
      obtain ⟨ua, ut, hq⟩ := hrow U1 U2 U3
      have hl := row_lists m hq
      have hm := mkd_row hc hq
      exact ⟨ua, ut, fun _ => ⟨hm.c7, hm.c11, hl.1.2, hl.2.2⟩⟩
    · exact ⟨nilS, nilS, fun q => absurd q hi⟩
  refine ⟨g, cap, fun i => (hr i).choose, fun i => (hr i).choose_spec.choose, rfl, h1, h2, hb g rfl, hbk, fun i hi => ?_, fun i hi => ?_, fun i hi => ?_, fun i hi => ?_⟩
  · exact ((hr i).choose_spec.choose_spec hi).1
  · exact ((hr i).choose_spec.choose_spec hi).2.1
  · exact ((hr i).choose_spec.choose_spec hi).2.2.1
  · exact ((hr i).choose_spec.choose_spec hi).2.2.2
theorem cell_some {W : World} {B : Nat} {cs : Array Value} {t : TypeId} (h : W.heap[B]? = some (.cells cs t (0, 0))) {j : Nat} (hj : j < cs.size) : ∃ x, W.cell? ⟨B, j, none⟩ = some x :=
  ⟨cs[j], (blk_cellT h j).trans (Array.getElem?_eq_getElem hj)⟩
theorem mkd_stay {w W : World} {b : Nat} {v U1 U2 U3 : Value} {k : Nat} (h : Mkd w b v U1 U2 U3 k) (hb : Below w.heap.size w W) : Mkd W b v U1 U2 U3 k :=
  ⟨own_stayT h.1 hb, h.2.1.stay hb, h.2.2.1.stay hb, h.2.2.2.stay hb⟩
set_option maxRecDepth 100000 in
set_option maxHeartbeats 16000000 in
theorem rtsMakers_walk (w : World) : Calls Tryd.prog 11 #[] w fun e w' => e = .returned (.bool true) ∧ Below w.heap.size w w' := by
  go_enter Tryd.func11, Tryd.ntmps11
  go_wp2_with fail
  refine (makers_any _).mono ?_
  rintro e w1 ⟨⟨v, U1, U2, U3, rfl, hm⟩, hb1⟩
  obtain ⟨g, cap, fa, ft, rfl, hc1, hc2, hsh⟩ := sh_of hm
  have HS := Lib.hid (And.intro hsh hb1)
  clear hm hb1 hsh
  go_wp2_with fail
  go_loopw [2] (fun i wr => ∃ k : Nat, k ≤ 10 ∧ i = .int .i64 k ∧ Sh wr w.heap.size g fa ft ∧ Below w.heap.size w wr) (fun i _ => 10 - (intOf i).toNat)
  case atStart => exact ⟨0, Nat.zero_le _, rfl, HS.out.1, HS.out.2⟩
  case round =>
    obtain ⟨k, hk, rfl, hsh, hb⟩ := hrel
    have HR := Lib.hid (And.intro hsh hb)
    by_cases hlt : k < 10
    · obtain ⟨cs, hg, hcs⟩ := hsh.blk
      obtain ⟨x0, c0⟩ := cell_some hg (j := k * 12) (by omega)
      have g0 := blk_free hg
      have hs2 := hsh.set g (k * 12) (.string ⟨#[115, 112, 111, 105, 108, 116]⟩) (.inr (by omega))
      have hb2 := hb.setCell (p := ⟨g, k * 12, none⟩) hsh.le (.string ⟨#[115, 112, 111, 105, 108, 116]⟩)
      have HR2 := Lib.hid (And.intro hs2 hb2)
      clear hsh hb hs2 hb2 hg hcs
      go_wp2_with fail
      obtain ⟨A3, n3, cap3, hf3, hn3, hcp3, _⟩ := own_u (HR2.out.1.ot k hlt)
      have HF3 := Lib.hid hf3
      have HR3 := HR2
      clear hf3 c0 g0
      go_loopw [3] (fun f wx => ∃ q : Nat, q ≤ n3 ∧ f = .int .i64 q ∧ Sh wx w.heap.size g fa ft ∧ Below w.heap.size w wx) (fun f _ => n3 - (intOf f).toNat)
      case atStart => exact ⟨0, Nat.zero_le _, rfl, HR3.out.1, HR3.out.2⟩
      case round =>
        obtain ⟨q, hq, rfl, hshx, hbx⟩ := hrel
        have c1 := hshx.ct k hlt
        rw [HF3.out] at c1
        have HX := Lib.hid (And.intro hshx hbx)
        by_cases hql : q < n3
        · obtain ⟨A', n', cap', e1, _, _, e4⟩ := own_u (hshx.ot k hlt)
          rw [HF3.out] at e1
          injection e1 with e1 e2 e3
          subst e1 e2 e3
          obtain ⟨g2, cs2, rfl, hg2, hk2, hz2⟩ := e4 (by omega)
          obtain ⟨x1, d1⟩ := cell_some hk2 (j := q * 4 + 1) (by omega)
          have g1 := blk_free hk2
          have hne : g2 ≠ g := by
            rintro rfl
            obtain ⟨cs3, h5, _⟩ := hshx.blk
            rw [hk2] at h5
            injection h5 with h5
            injection h5 with _ h6
            exact absurd h6 (by decide)
          have hs6 := hshx.set g2 (q * 4 + 1) (.int .i64 77) (.inl hne)
          have hb6 := hbx.setCell (p := ⟨g2, q * 4 + 1, none⟩) hg2 (.int .i64 77)
          have HY := Lib.hid (And.intro hs6 hb6)
          clear hshx hbx hs6 hb6 hk2 hz2 hne e4
          go_wp2_with fail
          exact ⟨⟨q + 1, hql, by go_num, HY.out.1, HY.out.2⟩, by simp [intOf]; omega⟩
        · obtain rfl : q = n3 := by omega
          clear hshx hbx
          go_wp2_with fail
          obtain ⟨A4, n4, cap4, hf4, hn4, hcp4, _⟩ := own_u (HX.out.1.oa k hlt)
          have HF4 := Lib.hid hf4
          have HR4 := HX
          clear hf4 c1
          go_loopw [4] (fun f wx => ∃ q : Nat, q ≤ n4 ∧ f = .int .i64 q ∧ Sh wx w.heap.size g fa ft ∧ Below w.heap.size w wx) (fun f _ => n4 - (intOf f).toNat)
          case atStart => exact ⟨0, Nat.zero_le _, rfl, HR4.out.1, HR4.out.2⟩
          case round =>
            obtain ⟨q, hq, rfl, hshx, hbx⟩ := hrel
            have c1 := hshx.ca k hlt
            rw [HF4.out] at c1
            have HX := Lib.hid (And.intro hshx hbx)
            by_cases hql : q < n4
            · obtain ⟨A', n', cap', e1, _, _, e4⟩ := own_u (hshx.oa k hlt)
              rw [HF4.out] at e1
              injection e1 with e1 e2 e3
              subst e1 e2 e3
              obtain ⟨g2, cs2, rfl, hg2, hk2, hz2⟩ := e4 (by omega)
              obtain ⟨x1, d1⟩ := cell_some hk2 (j := q * 4 + 2) (by omega)
              have g1 := blk_free hk2
              have hne : g2 ≠ g := by
                rintro rfl
                obtain ⟨cs3, h5, _⟩ := hshx.blk
                rw [hk2] at h5
                injection h5 with h5
                injection h5 with _ h6
                exact absurd h6 (by decide)
              have hs6 := hshx.set g2 (q * 4 + 2) (.string ⟨#[115, 112, 111, 105, 108, 116]⟩) (.inl hne)
              have hb6 := hbx.setCell (p := ⟨g2, q * 4 + 2, none⟩) hg2 (.string ⟨#[115, 112, 111, 105, 108, 116]⟩)
              have HY := Lib.hid (And.intro hs6 hb6)
              clear hshx hbx hs6 hb6 hk2 hz2 hne e4
              go_wp2_with fail
              exact ⟨⟨q + 1, hql, by go_num, HY.out.1, HY.out.2⟩, by simp [intOf]; omega⟩
            · obtain rfl : q = n4 := by omega
              clear hshx hbx
              go_wp2_with fail
              exact ⟨⟨k + 1, hlt, by go_num, HX.out.1, HX.out.2⟩, by simp [intOf]; omega⟩
    · obtain rfl : k = 10 := by omega
      have HMK := Lib.hid makers_any
      clear hsh hb
      go_wp2_with fail
      refine (makers_any _).mono ?_
      rintro e w2 ⟨⟨v2, P1, P2, P3, rfl, hm2⟩, hb2⟩
      have hbw2 := HR.out.2.trans (hb2.mono HR.out.2.size)
      have HM := Lib.hid (And.intro hm2 hbw2)
      clear hm2 hb2 hbw2 HMK
      go_wp2_with fail
      refine (refmakers_any _).mono ?_
      rintro e w3 ⟨⟨v3, Q1, Q2, Q3, rfl, hm3⟩, hb3⟩
      have hm2 := mkd_stay HM.out.1 hb3
      have hbw3 := HM.out.2.trans (hb3.mono HM.out.2.size)
      have HS3 := Lib.hid (samemakers_any hm2 hm3)
      have HB3 := Lib.hid hbw3
      clear hm2 hm3 hb3 hbw3
      go_wp2_with fail
      refine HS3.out.mono ?_
      rintro e w4 ⟨rfl, hb4⟩
      have HB4 := Lib.hid (HB3.out.trans (hb4.mono HB3.out.size))
      clear hb4
      go_wp2_with fail
      refine (rknown_any _).mono ?_
      rintro e w5 ⟨rfl, hb5⟩
      have HB5 := Lib.hid (HB4.out.trans (hb5.mono HB4.out.size))
      clear hb5
      go_wp2_with fail
      go_ret
      exact ⟨rfl, HB5.out⟩
end Go.Proofs.YtlakfnlkiebpdaaDoor
