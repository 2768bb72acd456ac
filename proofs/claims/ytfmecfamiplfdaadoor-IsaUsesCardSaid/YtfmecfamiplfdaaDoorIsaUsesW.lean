/- The walk of the statement IsaUses: it returns true. Conditions: the library's table of powers of ten and the table of operations read as they are laid. -/
import Derived.Test.YtfmecfamiplfdaaDoorIsaRef
namespace Go.Proofs.YtfmecfamiplfdaaDoor
open Go Go.RowKit
theorem Kn.of {w W : World} (ho : Ops w) (ht : Tab w) (hb : Below w.heap.size w W) : Kn w W := ⟨hb, ops_below ho (Nat.le_refl _) hb, tab_below ht (Nat.le_refl _) hb⟩
theorem InsAt.far {W : World} {B g j : Nat} {o a b c n : Int} (h : InsAt W B o a b c n) (hne : g ≠ B) (u : Value) : InsAt (W.setCell ⟨g, j, none⟩ u) B o a b c n :=
  have st : ∀ (i : Nat) (v : Value), W.cell? ⟨B, i, none⟩ = some v → (W.setCell ⟨g, j, none⟩ u).cell? ⟨B, i, none⟩ = some v := fun _ _ hv => (World.cell?_setCell_far W _ _ u hne).trans hv
  ⟨st _ _ h.c0, st _ _ h.c1, st _ _ h.c2, st _ _ h.c3, st _ _ h.c4⟩
theorem frozen_far (W : World) (p q : Addr) (u : Value) : (W.setCell p u).frozen? q = W.frozen? q := World.frozen?_setCell _ _ _ _
theorem NewRow.far {w W : World} {v : Value} {zs : List Int} (h : NewRow w W v zs) {g j : Nat} (hg : g < w.heap.size) (u : Value) : NewRow w (W.setCell ⟨g, j, none⟩ u) v zs := by
  rcases h with h | ⟨k, cap, hv, h1, h2, h3, h4, hr⟩
  · exact .inl h
  · exact .inr ⟨k, cap, hv, h1, h2, h3, by simpa [World.setCell] using h4, fun i z hz => ⟨(World.cell?_setCell_far W ⟨g, j, none⟩ ⟨k, i, none⟩ u (by intro e; simp at e; omega)).trans (hr i z hz).1, (frozen_far W _ _ u).trans (hr i z hz).2⟩⟩
theorem NewRow.below {w W W' : World} {v : Value} {zs : List Int} (h : NewRow w W v zs) (hb : Below W.heap.size W W') : NewRow w W' v zs := by
  rcases h with h | ⟨g, cap, hv, h1, h2, h3, h4, hr⟩
  · exact .inl h
  · exact .inr ⟨g, cap, hv, h1, h2, h3, Nat.lt_of_lt_of_le h4 hb.size, hr.below hb⟩
theorem row_store {W : World} {g j : Nat} {zs : List Int} {y : Int} (h : RowAt W g zs) (hj : j < zs.length) : RowAt (W.setCell ⟨g, j, none⟩ (.int .i64 y)) g (zs.set j y) := fun i z hz => by
  refine ⟨?_, (frozen_far W _ _ _).trans ?_⟩
  · by_cases e : i = j
    · subst e
      rw [List.getElem?_set_self hj] at hz
      obtain rfl := Option.some.inj hz
      exact World.cell?_setCell_same _ _ _ (h i _ (List.getElem?_eq_getElem hj)).1
    · rw [List.getElem?_set_ne (fun q => e q.symm)] at hz
      exact (World.cell?_setCell_other _ _ _ _ (by intro q; injection q with _ q2; exact e q2.symm)).trans (h i z hz).1
  · have hi : i < zs.length := by
      have := (List.getElem?_eq_some_iff.1 hz).1
      simpa using this
    exact (h i _ (List.getElem?_eq_getElem hi)).2
theorem keep_drew {B : Nat} {w W : World} (h : Below B w W) (k : Nat) : Below B w (W.drewN k) := ⟨h.os, h.tape, h.output, h.size, h.block⟩
set_option maxRecDepth 100000 in
set_option maxHeartbeats 4000000 in
theorem uses_0 (o a b c n : Int) (zb : List Int) (hA : ReadsP 19 o a b c n []) (hB : ReadsP 20 o a b c n zb) (hC : ReadsP 21 o a b c n []) (hD : ReadsP 23 o a b c n zb) (w : World) (ho : Ops w) (ht : Tab w) :
    Calls Tryd.prog 8 #[.agg #[.int .i64 o, .int .i64 a, .int .i64 b, .int .i64 c, .int .i64 n]] w fun e w' => e = .returned (.bool true) ∧ Below w.heap.size w w' := by
  have HA := Lib.hid hA
  have HBB := Lib.hid hB
  have HC := Lib.hid hC
  have HD := Lib.hid hD
  have HI0 := Lib.hid (InsAt.new w o a b c n)
  have HB0 := Lib.hid ((Below.refl w.heap.size w).alloc (Nat.le_refl _) (.cells #[.int .i64 o, .int .i64 a, .int .i64 b, .int .i64 c, .int .i64 n] 30))
  have HKn := Lib.hid (fun W => Kn.of (W := W) ho ht)
  clear hA hB hC hD ho ht
  go_enter Tryd.func8, Tryd.ntmps8
  go_wp2_with fail
  refine (HA.out _ (HKn.out _ HB0.out).ops).mono ?_
  rintro e w1 ⟨⟨va, rfl, hva⟩, hb⟩
  have HVA := Lib.hid (hva.below (Below.refl _ _))
  have HI1 := Lib.hid (HI0.out.below hb)
  have HB1 := Lib.hid (HB0.out.trans (hb.mono HB0.out.size))
  obtain ⟨i0, i1, i2, i3, i4⟩ := HI1.out
  clear hb
  rcases hva with ⟨_, rfl⟩ | ⟨ga, capa, rfl, ha1, ha2, ha3, ha4, hra⟩
  all_goals
    go_wp2_with fail
    refine (HBB.out _ (HKn.out _ HB1.out).ops).mono ?_
    rintro e w2 ⟨⟨vb, rfl, hvb⟩, hb⟩
    have HVB := Lib.hid hvb
    have HI2 := Lib.hid (HI1.out.below hb)
    have HB2 := Lib.hid (HB1.out.trans (hb.mono HB1.out.size))
    clear hb hvb i0 i1 i2 i3 i4
    obtain ⟨i0, i1, i2, i3, i4⟩ := HI2.out
    go_wp2_with fail
    have HB3 := Lib.hid (HB2.out)
    have HI3 := Lib.hid (HI2.out)
    have HV3 := Lib.hid (HVB.out)
    refine wp_loop_rounds 1 ?_
    rw [rounds_succ]
    go_wp2_with fail
    refine (HA.out _ (HKn.out _ HB3.out).ops).mono ?_
    rintro e w4 ⟨⟨vc, rfl, hvc⟩, hb⟩
    have HB4 := Lib.hid (HB3.out.trans (hb.mono HB3.out.size))
    have HI4 := Lib.hid (HI3.out.below hb)
    have HV4 := Lib.hid (HV3.out.below hb)
    have HVC4 := Lib.hid hvc.row
    clear hb hvc i0 i1 i2 i3 i4
    obtain ⟨i0, i1, i2, i3, i4⟩ := HI4.out
    go_wp2_with fail
    refine (HC.out _ (HKn.out _ HB4.out).ops).mono ?_
    rintro e w5 ⟨⟨vw, rfl, hvw⟩, hb⟩
    have HB5 := Lib.hid (HB4.out.trans (hb.mono HB4.out.size))
    have HI5 := Lib.hid (HI4.out.below hb)
    have HV5 := Lib.hid (HV4.out.below hb)
    have HVC5 := Lib.hid (HVC4.out.below hb)
    have HVW5 := Lib.hid hvw.row
    clear hb i0 i1 i2 i3 i4
    obtain ⟨i0, i1, i2, i3, i4⟩ := HI5.out
    rcases hvw with ⟨_, rfl⟩ | ⟨gw, capw, rfl, hw1, hw2, hw3, hw4, hrw⟩
    all_goals
      go_wp2_with fail
      refine (same_ints _ HVC5.out HVW5.out).mono ?_
      rintro e w6 ⟨rfl, hb⟩
      have HB6 := Lib.hid (HB5.out.trans (hb.mono HB5.out.size))
      have HI6 := Lib.hid (HI5.out.below hb)
      have HV6 := Lib.hid (HV5.out.below hb)
      clear hb i0 i1 i2 i3 i4
      obtain ⟨i0, i1, i2, i3, i4⟩ := HI6.out
      go_wp2_with fail
      refine (HD.out _ (HKn.out _ HB6.out).ops).mono ?_
      rintro e w7 ⟨⟨vd, rfl, hvd⟩, hb⟩
      have HB7 := Lib.hid (HB6.out.trans (hb.mono HB6.out.size))
      have HV7 := Lib.hid (HV6.out.below hb).row
      have HVD7 := Lib.hid hvd.row
      clear hb hvd i0 i1 i2 i3 i4
      go_wp2_with fail
      refine (same_ints _ HV7.out HVD7.out).mono ?_
      rintro e w8 ⟨rfl, hb⟩
      have HB8 := Lib.hid (HB7.out.trans (hb.mono HB7.out.size))
      clear hb
      go_wp2_with fail
      refine wp_loop_rounds 1 ?_
      rw [rounds_succ]
      go_wp2_with fail
      refine (known_any _ (HKn.out _ HB8.out).ops (HKn.out _ HB8.out).tab).mono ?_
      rintro e w9 ⟨rfl, hb⟩
      have HB9 := Lib.hid (HB8.out.trans (hb.mono HB8.out.size))
      clear hb
      go_wp2_with fail
      go_ret
      exact ⟨rfl, HB9.out⟩
set_option maxRecDepth 100000 in
set_option maxHeartbeats 4000000 in
theorem uses_1 (o a b c n : Int) (x : Int) (zb : List Int) (hA : ReadsP 19 o a b c n [x]) (hB : ReadsP 20 o a b c n zb) (hC : ReadsP 21 o a b c n [x]) (hD : ReadsP 23 o a b c n zb) (w : World) (ho : Ops w) (ht : Tab w) :
    Calls Tryd.prog 8 #[.agg #[.int .i64 o, .int .i64 a, .int .i64 b, .int .i64 c, .int .i64 n]] w fun e w' => e = .returned (.bool true) ∧ Below w.heap.size w w' := by
  have HA := Lib.hid hA
  have HBB := Lib.hid hB
  have HC := Lib.hid hC
  have HD := Lib.hid hD
  have HI0 := Lib.hid (InsAt.new w o a b c n)
  have HB0 := Lib.hid ((Below.refl w.heap.size w).alloc (Nat.le_refl _) (.cells #[.int .i64 o, .int .i64 a, .int .i64 b, .int .i64 c, .int .i64 n] 30))
  have HKn := Lib.hid (fun W => Kn.of (W := W) ho ht)
  clear hA hB hC hD ho ht
  go_enter Tryd.func8, Tryd.ntmps8
  go_wp2_with fail
  refine (HA.out _ (HKn.out _ HB0.out).ops).mono ?_
  rintro e w1 ⟨⟨va, rfl, hva⟩, hb⟩
  have HVA := Lib.hid (hva.below (Below.refl _ _))
  have HI1 := Lib.hid (HI0.out.below hb)
  have HB1 := Lib.hid (HB0.out.trans (hb.mono HB0.out.size))
  obtain ⟨i0, i1, i2, i3, i4⟩ := HI1.out
  clear hb
  rcases hva with ⟨h, _⟩ | ⟨ga, capa, rfl, ha1, ha2, ha3, ha4, hra⟩
  · cases h
  have HRA := Lib.hid hra
  have ha5 : w.heap.size < ga := by simp at ha3; omega
  clear hra
  go_wp2_with fail
  refine (HBB.out _ (HKn.out _ HB1.out).ops).mono ?_
  rintro e w2 ⟨⟨vb, rfl, hvb⟩, hb⟩
  have HVB := Lib.hid hvb
  have HI2 := Lib.hid (HI1.out.below hb)
  have HB2 := Lib.hid (HB1.out.trans (hb.mono HB1.out.size))
  have HRA2 := Lib.hid (HRA.out.below hb)
  have c0 := (HRA2.out 0 _ rfl).1
  have f0 := (HRA2.out 0 _ rfl).2
  clear hb hvb i0 i1 i2 i3 i4
  obtain ⟨i0, i1, i2, i3, i4⟩ := HI2.out
  go_wp2_with fail
  have HB3 := Lib.hid (((HB2.out).setCell (p := ⟨ga, 0, none⟩) (Nat.le_of_lt ha5) (.int .i64 (wrap64 (x + 100)))))
  have HI3 := Lib.hid (((HI2.out).far (g := ga) (j := 0) (Nat.ne_of_gt ha5) (.int .i64 (wrap64 (x + 100)))))
  have HV3 := Lib.hid (((HVB.out).far (g := ga) (j := 0) ha4 (.int .i64 (wrap64 (x + 100)))))
  have HR3 := Lib.hid ((row_store (j := 0) (y := wrap64 (x + 100)) (HRA2.out) (by simp)))
  refine wp_loop_rounds 2 ?_
  rw [rounds_succ]
  go_wp2_with fail
  rw [rounds_succ]
  go_wp2_with fail
  refine (HA.out _ (HKn.out _ HB3.out).ops).mono ?_
  rintro e w4 ⟨⟨vc, rfl, hvc⟩, hb⟩
  have HB4 := Lib.hid (HB3.out.trans (hb.mono HB3.out.size))
  have HI4 := Lib.hid (HI3.out.below hb)
  have HV4 := Lib.hid (HV3.out.below hb)
  have HVC4 := Lib.hid hvc.row
  have HR4 := Lib.hid (HR3.out.below hb)
  clear hb hvc i0 i1 i2 i3 i4
  obtain ⟨i0, i1, i2, i3, i4⟩ := HI4.out
  go_wp2_with fail
  refine (HC.out _ (HKn.out _ HB4.out).ops).mono ?_
  rintro e w5 ⟨⟨vw, rfl, hvw⟩, hb⟩
  have HB5 := Lib.hid (HB4.out.trans (hb.mono HB4.out.size))
  have HI5 := Lib.hid (HI4.out.below hb)
  have HV5 := Lib.hid (HV4.out.below hb)
  have HVC5 := Lib.hid (HVC4.out.below hb)
  have HVW5 := Lib.hid hvw.row
  have HR5 := Lib.hid (HR4.out.below hb)
  clear hb i0 i1 i2 i3 i4
  obtain ⟨i0, i1, i2, i3, i4⟩ := HI5.out
  rcases hvw with ⟨h, _⟩ | ⟨gw, capw, rfl, hw1, hw2, hw3, hw4, hrw⟩
  · cases h
  have HRW5 := Lib.hid hrw
  clear hrw
  go_wp2_with fail
  refine (same_ints _ HVC5.out HVW5.out).mono ?_
  rintro e w6 ⟨rfl, hb⟩
  have HB6 := Lib.hid (HB5.out.trans (hb.mono HB5.out.size))
  have HI6 := Lib.hid (HI5.out.below hb)
  have HV6 := Lib.hid (HV5.out.below hb)
  have HR6 := Lib.hid (HR5.out.below hb)
  have HRW6 := Lib.hid (HRW5.out.below hb)
  clear hb i0 i1 i2 i3 i4
  obtain ⟨i0, i1, i2, i3, i4⟩ := HI6.out
  go_wp2_with fail
  refine (HD.out _ (HKn.out _ HB6.out).ops).mono ?_
  rintro e w7 ⟨⟨vd, rfl, hvd⟩, hb⟩
  have HB7 := Lib.hid (HB6.out.trans (hb.mono HB6.out.size))
  have HV7 := Lib.hid (HV6.out.below hb).row
  have HVD7 := Lib.hid hvd.row
  have HR7 := Lib.hid (HR6.out.below hb)
  have HRW7 := Lib.hid (HRW6.out.below hb)
  clear hb hvd i0 i1 i2 i3 i4
  go_wp2_with fail
  refine (same_ints _ HV7.out HVD7.out).mono ?_
  rintro e w8 ⟨rfl, hb⟩
  have HB8 := Lib.hid (HB7.out.trans (hb.mono HB7.out.size))
  have HR8 := Lib.hid (HR7.out.below hb)
  have HRW8 := Lib.hid (HRW7.out.below hb)
  have p0 := (HR8.out 0 _ rfl).1
  have q0 := (HRW8.out 0 _ rfl).1
  clear hb
  go_wp2_with fail
  refine wp_loop_rounds 2 ?_
  rw [rounds_succ]
  go_wp2_with fail
  go_quiet (fail)
  go_wp2_with fail
  rw [rounds_succ]
  go_wp2_with fail
  refine (known_any _ (HKn.out _ (keep_drew HB8.out _)).ops (HKn.out _ (keep_drew HB8.out _)).tab).mono ?_
  rintro e w9 ⟨rfl, hb⟩
  have HB9 := Lib.hid ((keep_drew HB8.out _).trans (hb.mono (keep_drew HB8.out _).size))
  clear hb
  go_wp2_with fail
  go_ret
  exact ⟨rfl, HB9.out⟩
set_option maxRecDepth 100000 in
set_option maxHeartbeats 4000000 in
theorem uses_2 (o a b c n : Int) (x y : Int) (zb : List Int) (hA : ReadsP 19 o a b c n [x, y]) (hB : ReadsP 20 o a b c n zb) (hC : ReadsP 21 o a b c n [x, y]) (hD : ReadsP 23 o a b c n zb) (w : World) (ho : Ops w) (ht : Tab w) :
    Calls Tryd.prog 8 #[.agg #[.int .i64 o, .int .i64 a, .int .i64 b, .int .i64 c, .int .i64 n]] w fun e w' => e = .returned (.bool true) ∧ Below w.heap.size w w' := by
  have HA := Lib.hid hA
  have HBB := Lib.hid hB
  have HC := Lib.hid hC
  have HD := Lib.hid hD
  have HI0 := Lib.hid (InsAt.new w o a b c n)
  have HB0 := Lib.hid ((Below.refl w.heap.size w).alloc (Nat.le_refl _) (.cells #[.int .i64 o, .int .i64 a, .int .i64 b, .int .i64 c, .int .i64 n] 30))
  have HKn := Lib.hid (fun W => Kn.of (W := W) ho ht)
  clear hA hB hC hD ho ht
  go_enter Tryd.func8, Tryd.ntmps8
  go_wp2_with fail
  refine (HA.out _ (HKn.out _ HB0.out).ops).mono ?_
  rintro e w1 ⟨⟨va, rfl, hva⟩, hb⟩
  have HVA := Lib.hid (hva.below (Below.refl _ _))
  have HI1 := Lib.hid (HI0.out.below hb)
  have HB1 := Lib.hid (HB0.out.trans (hb.mono HB0.out.size))
  obtain ⟨i0, i1, i2, i3, i4⟩ := HI1.out
  clear hb
  rcases hva with ⟨h, _⟩ | ⟨ga, capa, rfl, ha1, ha2, ha3, ha4, hra⟩
  · cases h
  have HRA := Lib.hid hra
  have ha5 : w.heap.size < ga := by simp at ha3; omega
  clear hra
  go_wp2_with fail
  refine (HBB.out _ (HKn.out _ HB1.out).ops).mono ?_
  rintro e w2 ⟨⟨vb, rfl, hvb⟩, hb⟩
  have HVB := Lib.hid hvb
  have HI2 := Lib.hid (HI1.out.below hb)
  have HB2 := Lib.hid (HB1.out.trans (hb.mono HB1.out.size))
  have HRA2 := Lib.hid (HRA.out.below hb)
  have c0 := (HRA2.out 0 _ rfl).1
  have f0 := (HRA2.out 0 _ rfl).2
  have c1 := (HRA2.out 1 _ rfl).1
  have f1 := (HRA2.out 1 _ rfl).2
  clear hb hvb i0 i1 i2 i3 i4
  obtain ⟨i0, i1, i2, i3, i4⟩ := HI2.out
  go_wp2_with fail
  have HB3 := Lib.hid (((((HB2.out).setCell (p := ⟨ga, 0, none⟩) (Nat.le_of_lt ha5) (.int .i64 (wrap64 (x + 100))))).setCell (p := ⟨ga, 1, none⟩) (Nat.le_of_lt ha5) (.int .i64 (wrap64 (y + 100)))))
  have HI3 := Lib.hid (((((HI2.out).far (g := ga) (j := 0) (Nat.ne_of_gt ha5) (.int .i64 (wrap64 (x + 100))))).far (g := ga) (j := 1) (Nat.ne_of_gt ha5) (.int .i64 (wrap64 (y + 100)))))
  have HV3 := Lib.hid (((((HVB.out).far (g := ga) (j := 0) ha4 (.int .i64 (wrap64 (x + 100))))).far (g := ga) (j := 1) ha4 (.int .i64 (wrap64 (y + 100)))))
  have HR3 := Lib.hid ((row_store (j := 1) (y := wrap64 (y + 100)) ((row_store (j := 0) (y := wrap64 (x + 100)) (HRA2.out) (by simp))) (by simp)))
  refine wp_loop_rounds 3 ?_
  rw [rounds_succ]
  go_wp2_with fail
  rw [rounds_succ]
  go_wp2_with fail
  rw [rounds_succ]
  go_wp2_with fail
  refine (HA.out _ (HKn.out _ HB3.out).ops).mono ?_
  rintro e w4 ⟨⟨vc, rfl, hvc⟩, hb⟩
  have HB4 := Lib.hid (HB3.out.trans (hb.mono HB3.out.size))
  have HI4 := Lib.hid (HI3.out.below hb)
  have HV4 := Lib.hid (HV3.out.below hb)
  have HVC4 := Lib.hid hvc.row
  have HR4 := Lib.hid (HR3.out.below hb)
  clear hb hvc i0 i1 i2 i3 i4
  obtain ⟨i0, i1, i2, i3, i4⟩ := HI4.out
  go_wp2_with fail
  refine (HC.out _ (HKn.out _ HB4.out).ops).mono ?_
  rintro e w5 ⟨⟨vw, rfl, hvw⟩, hb⟩
  have HB5 := Lib.hid (HB4.out.trans (hb.mono HB4.out.size))
  have HI5 := Lib.hid (HI4.out.below hb)
  have HV5 := Lib.hid (HV4.out.below hb)
  have HVC5 := Lib.hid (HVC4.out.below hb)
  have HVW5 := Lib.hid hvw.row
  have HR5 := Lib.hid (HR4.out.below hb)
  clear hb i0 i1 i2 i3 i4
  obtain ⟨i0, i1, i2, i3, i4⟩ := HI5.out
  rcases hvw with ⟨h, _⟩ | ⟨gw, capw, rfl, hw1, hw2, hw3, hw4, hrw⟩
  · cases h
  have HRW5 := Lib.hid hrw
  clear hrw
  go_wp2_with fail
  refine (same_ints _ HVC5.out HVW5.out).mono ?_
  rintro e w6 ⟨rfl, hb⟩
  have HB6 := Lib.hid (HB5.out.trans (hb.mono HB5.out.size))
  have HI6 := Lib.hid (HI5.out.below hb)
  have HV6 := Lib.hid (HV5.out.below hb)
  have HR6 := Lib.hid (HR5.out.below hb)
  have HRW6 := Lib.hid (HRW5.out.below hb)
  clear hb i0 i1 i2 i3 i4
  obtain ⟨i0, i1, i2, i3, i4⟩ := HI6.out
  go_wp2_with fail
  refine (HD.out _ (HKn.out _ HB6.out).ops).mono ?_
  rintro e w7 ⟨⟨vd, rfl, hvd⟩, hb⟩
  have HB7 := Lib.hid (HB6.out.trans (hb.mono HB6.out.size))
  have HV7 := Lib.hid (HV6.out.below hb).row
  have HVD7 := Lib.hid hvd.row
  have HR7 := Lib.hid (HR6.out.below hb)
  have HRW7 := Lib.hid (HRW6.out.below hb)
  clear hb hvd i0 i1 i2 i3 i4
  go_wp2_with fail
  refine (same_ints _ HV7.out HVD7.out).mono ?_
  rintro e w8 ⟨rfl, hb⟩
  have HB8 := Lib.hid (HB7.out.trans (hb.mono HB7.out.size))
  have HR8 := Lib.hid (HR7.out.below hb)
  have HRW8 := Lib.hid (HRW7.out.below hb)
  have p0 := (HR8.out 0 _ rfl).1
  have q0 := (HRW8.out 0 _ rfl).1
  have p1 := (HR8.out 1 _ rfl).1
  have q1 := (HRW8.out 1 _ rfl).1
  clear hb
  go_wp2_with fail
  refine wp_loop_rounds 3 ?_
  rw [rounds_succ]
  go_wp2_with fail
  go_quiet (fail)
  go_wp2_with fail
  rw [rounds_succ]
  go_wp2_with fail
  go_quiet (fail)
  go_wp2_with fail
  rw [rounds_succ]
  go_wp2_with fail
  refine (known_any _ (HKn.out _ (keep_drew HB8.out _)).ops (HKn.out _ (keep_drew HB8.out _)).tab).mono ?_
  rintro e w9 ⟨rfl, hb⟩
  have HB9 := Lib.hid ((keep_drew HB8.out _).trans (hb.mono (keep_drew HB8.out _).size))
  clear hb
  go_wp2_with fail
  go_ret
  exact ⟨rfl, HB9.out⟩
theorem uses_known : ∀ (op : Nat) (a b c n : Int) (w : World), 1 ≤ op → op ≤ 36 → chkOf op a b c n = 0 → Ops w → Tab w →
    Calls Tryd.prog 8 #[.agg #[.int .i64 op, .int .i64 a, .int .i64 b, .int .i64 c, .int .i64 n]] w fun e w' => e = .returned (.bool true) ∧ Below w.heap.size w w'
  | 0, _, _, _, _, _, h, _, _, _, _ => absurd h (by decide)
  | 1, a, b, c, n, w, _, _, hc, ho, ht => uses_0 1 a b c n [a] (reads_1 a b c n hc) (writes_1 a b c n hc) (refreads_ok 1 (by decide) (by decide) a b c n hc (by decide)) (refwrites_ok 1 (by decide) (by decide) a b c n hc (by decide)) w ho ht
  | 2, a, b, c, n, w, _, _, hc, ho, ht => uses_0 2 a b c n [a] (reads_2 a b c n hc) (writes_2 a b c n hc) (refreads_ok 2 (by decide) (by decide) a b c n hc (by decide)) (refwrites_ok 2 (by decide) (by decide) a b c n hc (by decide)) w ho ht
  | 3, a, b, c, n, w, _, _, hc, ho, ht => uses_1 3 a b c n b [a] (reads_3 a b c n hc) (writes_3 a b c n hc) (refreads_ok 3 (by decide) (by decide) a b c n hc (by decide)) (refwrites_ok 3 (by decide) (by decide) a b c n hc (by decide)) w ho ht
  | 4, a, b, c, n, w, _, _, hc, ho, ht => uses_1 4 a b c n a [] (reads_4 a b c n hc) (writes_4 a b c n hc) (refreads_ok 4 (by decide) (by decide) a b c n hc (by decide)) (refwrites_ok 4 (by decide) (by decide) a b c n hc (by decide)) w ho ht
  | 5, a, b, c, n, w, _, _, hc, ho, ht => uses_0 5 a b c n [a] (reads_5 a b c n hc) (writes_5 a b c n hc) (refreads_ok 5 (by decide) (by decide) a b c n hc (by decide)) (refwrites_ok 5 (by decide) (by decide) a b c n hc (by decide)) w ho ht
  | 6, a, b, c, n, w, _, _, hc, ho, ht => uses_1 6 a b c n a [] (reads_6 a b c n hc) (writes_6 a b c n hc) (refreads_ok 6 (by decide) (by decide) a b c n hc (by decide)) (refwrites_ok 6 (by decide) (by decide) a b c n hc (by decide)) w ho ht
  | 7, a, b, c, n, w, _, _, hc, ho, ht => uses_2 7 a b c n b c [a] (reads_7 a b c n hc) (writes_7 a b c n hc) (refreads_ok 7 (by decide) (by decide) a b c n hc (by decide)) (refwrites_ok 7 (by decide) (by decide) a b c n hc (by decide)) w ho ht
  | 8, a, b, c, n, w, _, _, hc, ho, ht => uses_2 8 a b c n b c [a] (reads_8 a b c n hc) (writes_8 a b c n hc) (refreads_ok 8 (by decide) (by decide) a b c n hc (by decide)) (refwrites_ok 8 (by decide) (by decide) a b c n hc (by decide)) w ho ht
  | 9, a, b, c, n, w, _, _, hc, ho, ht => uses_2 9 a b c n b c [a] (reads_9 a b c n hc) (writes_9 a b c n hc) (refreads_ok 9 (by decide) (by decide) a b c n hc (by decide)) (refwrites_ok 9 (by decide) (by decide) a b c n hc (by decide)) w ho ht
  | 10, a, b, c, n, w, _, _, hc, ho, ht => uses_2 10 a b c n b c [a] (reads_10 a b c n hc) (writes_10 a b c n hc) (refreads_ok 10 (by decide) (by decide) a b c n hc (by decide)) (refwrites_ok 10 (by decide) (by decide) a b c n hc (by decide)) w ho ht
  | 11, a, b, c, n, w, _, _, hc, ho, ht => uses_2 11 a b c n b c [a] (reads_11 a b c n hc) (writes_11 a b c n hc) (refreads_ok 11 (by decide) (by decide) a b c n hc (by decide)) (refwrites_ok 11 (by decide) (by decide) a b c n hc (by decide)) w ho ht
  | 12, a, b, c, n, w, _, _, hc, ho, ht => uses_1 12 a b c n b [a] (reads_12 a b c n hc) (writes_12 a b c n hc) (refreads_ok 12 (by decide) (by decide) a b c n hc (by decide)) (refwrites_ok 12 (by decide) (by decide) a b c n hc (by decide)) w ho ht
  | 13, a, b, c, n, w, _, _, hc, ho, ht => uses_2 13 a b c n b c [a] (reads_13 a b c n hc) (writes_13 a b c n hc) (refreads_ok 13 (by decide) (by decide) a b c n hc (by decide)) (refwrites_ok 13 (by decide) (by decide) a b c n hc (by decide)) w ho ht
  | 14, a, b, c, n, w, _, _, hc, ho, ht => uses_2 14 a b c n b c [a] (reads_14 a b c n hc) (writes_14 a b c n hc) (refreads_ok 14 (by decide) (by decide) a b c n hc (by decide)) (refwrites_ok 14 (by decide) (by decide) a b c n hc (by decide)) w ho ht
  | 15, a, b, c, n, w, _, _, hc, ho, ht => uses_2 15 a b c n b c [a] (reads_15 a b c n hc) (writes_15 a b c n hc) (refreads_ok 15 (by decide) (by decide) a b c n hc (by decide)) (refwrites_ok 15 (by decide) (by decide) a b c n hc (by decide)) w ho ht
  | 16, a, b, c, n, w, _, _, hc, ho, ht => uses_0 16 a b c n [a] (reads_16 a b c n hc) (writes_16 a b c n hc) (refreads_ok 16 (by decide) (by decide) a b c n hc (by decide)) (refwrites_ok 16 (by decide) (by decide) a b c n hc (by decide)) w ho ht
  | 17, a, b, c, n, w, _, _, hc, ho, ht => uses_0 17 a b c n [a] (reads_17 a b c n hc) (writes_17 a b c n hc) (refreads_ok 17 (by decide) (by decide) a b c n hc (by decide)) (refwrites_ok 17 (by decide) (by decide) a b c n hc (by decide)) w ho ht
  | 18, a, b, c, n, w, _, _, hc, ho, ht => uses_1 18 a b c n b [a] (reads_18 a b c n hc) (writes_18 a b c n hc) (refreads_ok 18 (by decide) (by decide) a b c n hc (by decide)) (refwrites_ok 18 (by decide) (by decide) a b c n hc (by decide)) w ho ht
  | 19, a, b, c, n, w, _, _, hc, ho, ht => uses_1 19 a b c n b [a] (reads_19 a b c n hc) (writes_19 a b c n hc) (refreads_ok 19 (by decide) (by decide) a b c n hc (by decide)) (refwrites_ok 19 (by decide) (by decide) a b c n hc (by decide)) w ho ht
  | 20, a, b, c, n, w, _, _, hc, ho, ht => uses_2 20 a b c n a b [] (reads_20 a b c n hc) (writes_20 a b c n hc) (refreads_ok 20 (by decide) (by decide) a b c n hc (by decide)) (refwrites_ok 20 (by decide) (by decide) a b c n hc (by decide)) w ho ht
  | 21, a, b, c, n, w, _, _, hc, ho, ht => uses_2 21 a b c n a b [] (reads_21 a b c n hc) (writes_21 a b c n hc) (refreads_ok 21 (by decide) (by decide) a b c n hc (by decide)) (refwrites_ok 21 (by decide) (by decide) a b c n hc (by decide)) w ho ht
  | 22, a, b, c, n, w, _, _, hc, ho, ht => uses_1 22 a b c n b [a] (reads_22 a b c n hc) (writes_22 a b c n hc) (refreads_ok 22 (by decide) (by decide) a b c n hc (by decide)) (refwrites_ok 22 (by decide) (by decide) a b c n hc (by decide)) w ho ht
  | 23, a, b, c, n, w, _, _, hc, ho, ht => uses_0 23 a b c n [] (reads_23 a b c n hc) (writes_23 a b c n hc) (refreads_ok 23 (by decide) (by decide) a b c n hc (by decide)) (refwrites_ok 23 (by decide) (by decide) a b c n hc (by decide)) w ho ht
  | 24, a, b, c, n, w, _, _, hc, ho, ht => uses_1 24 a b c n a [] (reads_24 a b c n hc) (writes_24 a b c n hc) (refreads_ok 24 (by decide) (by decide) a b c n hc (by decide)) (refwrites_ok 24 (by decide) (by decide) a b c n hc (by decide)) w ho ht
  | 25, a, b, c, n, w, _, _, hc, ho, ht => uses_0 25 a b c n [] (reads_25 a b c n hc) (writes_25 a b c n hc) (refreads_ok 25 (by decide) (by decide) a b c n hc (by decide)) (refwrites_ok 25 (by decide) (by decide) a b c n hc (by decide)) w ho ht
  | 26, a, b, c, n, w, _, _, hc, ho, ht => uses_2 26 a b c n a b [0] (reads_26 a b c n hc) (writes_26 a b c n hc) (refreads_ok 26 (by decide) (by decide) a b c n hc (by decide)) (refwrites_ok 26 (by decide) (by decide) a b c n hc (by decide)) w ho ht
  | 27, a, b, c, n, w, _, _, hc, ho, ht => uses_2 27 a b c n a b [] (reads_27 a b c n hc) (writes_27 a b c n hc) (refreads_ok 27 (by decide) (by decide) a b c n hc (by decide)) (refwrites_ok 27 (by decide) (by decide) a b c n hc (by decide)) w ho ht
  | 28, a, b, c, n, w, _, _, hc, ho, ht => uses_1 28 a b c n a [] (reads_28 a b c n hc) (writes_28 a b c n hc) (refreads_ok 28 (by decide) (by decide) a b c n hc (by decide)) (refwrites_ok 28 (by decide) (by decide) a b c n hc (by decide)) w ho ht
  | 29, a, b, c, n, w, _, _, hc, ho, ht => uses_0 29 a b c n [] (reads_29 a b c n hc) (writes_29 a b c n hc) (refreads_ok 29 (by decide) (by decide) a b c n hc (by decide)) (refwrites_ok 29 (by decide) (by decide) a b c n hc (by decide)) w ho ht
  | 30, a, b, c, n, w, _, _, hc, ho, ht => uses_0 30 a b c n [] (reads_30 a b c n hc) (writes_30 a b c n hc) (refreads_ok 30 (by decide) (by decide) a b c n hc (by decide)) (refwrites_ok 30 (by decide) (by decide) a b c n hc (by decide)) w ho ht
  | 31, a, b, c, n, w, _, _, hc, ho, ht => uses_1 31 a b c n a [] (reads_31 a b c n hc) (writes_31 a b c n hc) (refreads_ok 31 (by decide) (by decide) a b c n hc (by decide)) (refwrites_ok 31 (by decide) (by decide) a b c n hc (by decide)) w ho ht
  | 32, a, b, c, n, w, _, _, hc, ho, ht => uses_2 32 a b c n b c [a] (reads_32 a b c n hc) (writes_32 a b c n hc) (refreads_ok 32 (by decide) (by decide) a b c n hc (by decide)) (refwrites_ok 32 (by decide) (by decide) a b c n hc (by decide)) w ho ht
  | 33, a, b, c, n, w, _, _, hc, ho, ht => uses_1 33 a b c n b [a] (reads_33 a b c n hc) (writes_33 a b c n hc) (refreads_ok 33 (by decide) (by decide) a b c n hc (by decide)) (refwrites_ok 33 (by decide) (by decide) a b c n hc (by decide)) w ho ht
  | 34, a, b, c, n, w, _, _, hc, ho, ht => uses_1 34 a b c n b [a] (reads_34 a b c n hc) (writes_34 a b c n hc) (refreads_ok 34 (by decide) (by decide) a b c n hc (by decide)) (refwrites_ok 34 (by decide) (by decide) a b c n hc (by decide)) w ho ht
  | 35, a, b, c, n, w, _, _, hc, ho, ht => uses_2 35 a b c n b c [a] (reads_35 a b c n hc) (writes_35 a b c n hc) (refreads_ok 35 (by decide) (by decide) a b c n hc (by decide)) (refwrites_ok 35 (by decide) (by decide) a b c n hc (by decide)) w ho ht
  | 36, a, b, c, n, w, _, _, hc, ho, ht => uses_1 36 a b c n b [a] (reads_36 a b c n hc) (writes_36 a b c n hc) (refreads_ok 36 (by decide) (by decide) a b c n hc (by decide)) (refwrites_ok 36 (by decide) (by decide) a b c n hc (by decide)) w ho ht
  | n + 37, _, _, _, _, _, _, h, _, _, _ => absurd h (by omega)
theorem isaUses_any (o a b c n : Int) (w : World) (ho : Ops w) (ht : Tab w) :
    Calls Tryd.prog 8 #[.agg #[.int .i64 o, .int .i64 a, .int .i64 b, .int .i64 c, .int .i64 n]] w fun e w' => e = .returned (.bool true) ∧ Below w.heap.size w w' := by
  by_cases hc : chkOf o a b c n = 0
  · obtain ⟨g0, g1⟩ := known_of hc
    obtain ⟨k, rfl⟩ := Int.eq_ofNat_of_zero_le (show 0 ≤ o by omega)
    exact uses_known k a b c n w (by omega) (by omega) hc ho ht
  · exact uses_0 o a b c n [] (reads_bad o a b c n hc) (writes_bad o a b c n hc) (refreads_bad o a b c n hc) (refwrites_bad o a b c n hc) w ho ht
end Go.Proofs.YtfmecfamiplfdaaDoor
