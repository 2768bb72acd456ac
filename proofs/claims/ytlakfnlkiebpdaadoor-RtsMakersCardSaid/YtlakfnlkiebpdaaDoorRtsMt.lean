/- The walk of SameMakers. Conditions: none. -/
import Derived.Test.YtlakfnlkiebpdaaDoorRtsMs
namespace Go.Proofs.YtlakfnlkiebpdaaDoor
open Go Go.RowKit
set_option maxRecDepth 100000 in
set_option maxHeartbeats 16000000 in
theorem samemakers_any {w : World} {b b' : Nat} {v U1 U2 U3 v' V1 V2 V3 : Value} (m : Mkd w b v U1 U2 U3 6) (m' : Mkd w b' v' V1 V2 V3 6) :
    Calls Tryd.prog 38 #[v, v'] w fun e w' => e = .returned (.bool true) ∧ Below w.heap.size w w' := by
  obtain ⟨g, cap, rfl, hc1, hc2, _, hcs⟩ := mkd_form m
  obtain ⟨g', cap', rfl, hc1', hc2', _, hcs'⟩ := mkd_form m'
  have HM := Lib.hid (And.intro m (And.intro m' (And.intro hcs hcs')))
  clear m m' hcs hcs'
  go_enter Tryd.func38, Tryd.ntmps38
  go_wp2_with fail
  go_loopw [5] (fun i wr => ∃ k : Nat, k ≤ 10 ∧ i = .int .i64 k ∧ Below w.heap.size w wr) (fun i _ => 10 - (intOf i).toNat)
  case atStart => exact ⟨0, Nat.zero_le _, rfl, Below.refl _ _⟩
  case round =>
    obtain ⟨k, hk, rfl, hb⟩ := hrel
    have HB := Lib.hid hb
    clear hb
    by_cases hlt : k < 10
    · obtain ⟨s, tag, has, vars, a, t, hrow⟩ := row_of k hlt
      obtain ⟨ua, ut, hr1⟩ := hrow U1 U2 U3
      obtain ⟨ua', ut', hr2⟩ := hrow V1 V2 V3
      have hq1 := (mkd_row HM.out.2.2.1 hr1).stay HB.out
      have hq2 := (mkd_row HM.out.2.2.2 hr2).stay HB.out
      have hl1 := row_lists HM.out.1 hr1
      have hl2 := row_lists HM.out.2.1 hr2
      have HA := Lib.hid (fun (W : World) (hW : Below wr.heap.size wr W) => (same_types hl1.1.1 a rfl ua' b' hl2.1.1 W (HB.out.trans (hW.mono HB.out.size))).mono fun e w' ⟨h1, h2⟩ => (⟨h1, hW.trans (h2.mono hW.size), h2⟩ : e = Ending.returned (.bool true) ∧ Below wr.heap.size wr w' ∧ Below W.heap.size W w'))
      have HT := Lib.hid (fun (W : World) (hW : Below wr.heap.size wr W) => (same_types hl1.2.1 t rfl ut' b' hl2.2.1 W (HB.out.trans (hW.mono HB.out.size))).mono fun e w' ⟨h1, h2⟩ => (⟨h1, hW.trans (h2.mono hW.size)⟩ : e = Ending.returned (.bool true) ∧ Below wr.heap.size wr w'))
      unfold tyA at HA HT
      obtain ⟨A1, n1, e1⟩ := hl1.1.1.shape
      obtain ⟨A2, n2, e2⟩ := hl1.2.1.shape
      obtain ⟨A3, n3, e3⟩ := hl2.1.1.shape
      obtain ⟨A4, n4, e4⟩ := hl2.2.1.shape
      obtain ⟨c0, c1, c2, c3, c4, c5, c6, c7, c8, c9, c10, c11⟩ := hq1
      obtain ⟨d0, d1, d2, d3, d4, d5, d6, d7, d8, d9, d10, d11⟩ := hq2
      clear hr1 hr2 hl1 hl2 hrow
      subst e1 e2 e3 e4
      generalize a.l.length = La at *
      generalize t.l.length = Lt at *
      have h0 : (s.toList == s.toList) = true := by simp
      have h1 : (tag != tag) = false := by simp
      have h2 : (has != has) = false := by simp
      have h3 : (vars != vars) = false := by simp
      generalize a.k = ak at *
      generalize a.n = an at *
      generalize a.s = asv at *
      generalize t.k = tk at *
      generalize t.n = tn at *
      generalize t.s = ts at *
      have HD := Lib.hid (fun (o : Obj) => below_one wr o)
      replace d0 := fun (o : Obj) => below_cell (HD.out o) d0
      replace d1 := fun (o : Obj) => below_cell (HD.out o) d1
      replace d2 := fun (o : Obj) => below_cell (HD.out o) d2
      replace d3 := fun (o : Obj) => below_cell (HD.out o) d3
      replace d4 := fun (o : Obj) => below_cell (HD.out o) d4
      replace d5 := fun (o : Obj) => below_cell (HD.out o) d5
      replace d6 := fun (o : Obj) => below_cell (HD.out o) d6
      replace d7 := fun (o : Obj) => below_cell (HD.out o) d7
      replace d8 := fun (o : Obj) => below_cell (HD.out o) d8
      replace d9 := fun (o : Obj) => below_cell (HD.out o) d9
      replace d10 := fun (o : Obj) => below_cell (HD.out o) d10
      replace d11 := fun (o : Obj) => below_cell (HD.out o) d11
      go_wp2_with fail
      have hbb : Below wr.heap.size wr ((wr.alloc (.cells #[.string s, .int .i64 tag, .bool has, .int .i64 vars, .int .i64 ak, .int .i64 an, .string asv, .slice A1 La n1, .int .i64 tk, .int .i64 tn, .string ts, .slice A2 Lt n2] 73)).alloc (.cells #[.string s, .int .i64 tag, .bool has, .int .i64 vars, .int .i64 ak, .int .i64 an, .string asv, .slice A3 La n3, .int .i64 tk, .int .i64 tn, .string ts, .slice A4 Lt n4] 73)) := (below_one wr _).alloc (by rw [World.size_alloc]; omega) _
      have hx1 := blk_stay (heap_alloc_new wr (.cells #[.string s, .int .i64 tag, .bool has, .int .i64 vars, .int .i64 ak, .int .i64 an, .string asv, .slice A1 La n1, .int .i64 tk, .int .i64 tn, .string ts, .slice A2 Lt n2] 73)) (below_one _ (.cells #[.string s, .int .i64 tag, .bool has, .int .i64 vars, .int .i64 ak, .int .i64 an, .string asv, .slice A3 La n3, .int .i64 tk, .int .i64 tn, .string ts, .slice A4 Lt n4] 73))
      have hx2 := heap_alloc_new (wr.alloc (.cells #[.string s, .int .i64 tag, .bool has, .int .i64 vars, .int .i64 ak, .int .i64 an, .string asv, .slice A1 La n1, .int .i64 tk, .int .i64 tn, .string ts, .slice A2 Lt n2] 73)) (.cells #[.string s, .int .i64 tag, .bool has, .int .i64 vars, .int .i64 ak, .int .i64 an, .string asv, .slice A3 La n3, .int .i64 tk, .int .i64 tn, .string ts, .slice A4 Lt n4] 73)
      rw [World.size_alloc] at hx2
      clear c0 c1 c2 c3 c4 c5 c6 c7 c8 c9 c10 c11 d0 d1 d2 d3 d4 d5 d6 d7 d8 d9 d10 d11 h0 h1 h2 h3
      generalize (wr.alloc (.cells #[.string s, .int .i64 tag, .bool has, .int .i64 vars, .int .i64 ak, .int .i64 an, .string asv, .slice A1 La n1, .int .i64 tk, .int .i64 tn, .string ts, .slice A2 Lt n2] 73)).alloc (.cells #[.string s, .int .i64 tag, .bool has, .int .i64 vars, .int .i64 ak, .int .i64 an, .string asv, .slice A3 La n3, .int .i64 tk, .int .i64 tn, .string ts, .slice A4 Lt n4] 73) = W2 at hbb hx1 hx2 ⊢
      refine (HA.out _ hbb).mono ?_
      rintro e w3 ⟨rfl, hb3, hb4⟩
      have hx3 := blk_stay hx1 hb4
      have hx4 := blk_stay hx2 hb4
      have HB3 := Lib.hid hb3
      have c8 := blk_cellT hx3 8
      have c9 := blk_cellT hx3 9
      have c10 := blk_cellT hx3 10
      have c11 := blk_cellT hx3 11
      have d8 := blk_cellT hx4 8
      have d9 := blk_cellT hx4 9
      have d10 := blk_cellT hx4 10
      have d11 := blk_cellT hx4 11
      clear hbb hx1 hx2 hb3 hb4 hx3 hx4
      go_wp2_with fail
      clear c8 c9 c10 c11 d8 d9 d10 d11
      refine (HT.out _ HB3.out).mono ?_
      rintro e w4 ⟨rfl, hb4⟩
      have HB4 := Lib.hid (HB.out.trans (hb4.mono HB.out.size))
      clear hb4
      go_wp2_with fail
      exact ⟨⟨k + 1, hlt, by go_num, HB4.out⟩, by simp [intOf]; omega⟩
    · obtain rfl : k = 10 := by omega
      go_wp2_with fail
      go_ret
      exact ⟨rfl, HB.out⟩
end Go.Proofs.YtlakfnlkiebpdaaDoor
