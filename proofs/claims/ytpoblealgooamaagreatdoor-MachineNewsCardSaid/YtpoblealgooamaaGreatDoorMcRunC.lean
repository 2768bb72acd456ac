/- A machine begins its run, and fetches an instruction. Conditions: the machine's cells. -/
import Derived.Test.YtpoblealgooamaaGreatDoorMcRunB
import Derived.Deep.Cut
namespace Go.Proofs.YtpoblealgooamaaGreatDoor
open Go Go.RowKit Go.Proofs.YtpoblealgooamaaGreatDoor.IsaL
set_option maxRecDepth 100000 in
set_option maxHeartbeats 8000000 in
theorem begin_mc {w : World} {g b W n : Nat} {F : Nat → Value} {R : Nat → Value} {o : Ob} (hx : Bx w g F) (h0 : F 0 = .pointer (some ⟨b, 0, none⟩)) (hc : F 1043 = .int .u64 2) (h1 : F 1045 = .slice none 0 0) (h2 : F 1046 = .slice none 0 0) (m : Mem w b W 0 R [o] []) (z : WF W 0 [o] []) (hn : o.ws.length = n) (ht : o.t = 0) (hn3 : n ≤ 40) (hgO : ∀ i, Own b R i → i ≠ g) :
    Calls Tryz.prog 27 #[.pointer (some ⟨g, 0, none⟩)] w fun e w' => (∃ v, e = .returned v) ∧ ∃ fb c, Bx w' g (mup (mup F 1044 (.int .u64 1)) 1045 (.slice (some ⟨fb, 0, none⟩) 1 c)) ∧ Fb w' fb 2 0 n ∧ w.heap.size ≤ fb ∧ Fr (· = g) w w' := by
  have c3 := hx.cell (j := 1043) (by omega)
  rw [hc] at c3
  have c4 := hx.cell (j := 1044) (by omega)
  have z4 := hx.frozen 1044
  have HI := Lib.hid one_any
  have hf : Fr (· = g) w (w.setCell ⟨g, 1044, none⟩ (.int .u64 1)) := (Fr.refl (· = g) w).setCell (p := ⟨g, 1044, none⟩) (.inl rfl) _
  have HPS := Lib.hid (push_mc (hx.set 1044 (.int .u64 1)) (by exact h0) (by exact h1) (by exact h2) (m.kept hf (fun i hi => hgO i hi)) z hn ht hn3)
  have HF := Lib.hid hf
  have hsz : (w.setCell ⟨g, 1044, none⟩ (.int .u64 1)).heap.size = w.heap.size := by simp [World.setCell]
  have HSZ := Lib.hid hsz
  clear hx h0 hc h1 h2 m z hn ht hgO hf hsz
  go_enter Tryz.func27, Tryz.ntmps27
  go_wp2_with (go_at_call 19; refine (HI.out _).mono ?_; rintro e w' ⟨rfl, hw'⟩; subst w')
  refine HPS.out.mono ?_
  rintro e w2 ⟨⟨v, rfl⟩, fb, c, h1, h2, h3, h4⟩
  have HR := Lib.hid (And.intro h1 (And.intro h2 (And.intro (show w.heap.size ≤ fb by have := HSZ.out; omega) (HF.out.trans h4 (fun i hi => .inl hi)))))
  clear h1 h2 h3 h4
  go_wp2_with fail
  refine bodyPost_end (results_none rfl _ _ _) rfl ?_
  exact ⟨⟨_, rfl⟩, fb, c, HR.out⟩
theorem obK_at (wl : List Nat) {k y : Nat} (hy : wl[k]? = some y) (W : Nat) : loadX 0 W ⟨[obK wl wl.length], []⟩ 1 k = (y, 0) := by
  have hk := (List.getElem?_eq_some_iff.1 hy).1
  unfold loadX
  simp only [idx_one]
  have hw : (obN [obK wl wl.length] 0).ws = wl := by
    show wl.take wl.length ++ List.replicate (wl.length - wl.length) 0 = wl
    rw [List.take_length, Nat.sub_self, List.replicate_zero, List.append_nil]
  rw [hw, if_pos hk, List.getD_eq_getElem?_getD, hy]
  rfl
set_option maxRecDepth 100000 in
set_option maxHeartbeats 8000000 in
theorem fetch_mc {w0 w : World} {g b W n fb c k y : Nat} {F : Nat → Value} {R : Nat → Value} {wl : List Nat} {io ia ib ic inn : Int} (hb0 : Below w0.heap.size w0 w) (hops : Ops w0) (hx : Bx w g F) (h0 : F 0 = .pointer (some ⟨b, 0, none⟩)) (h1 : F 1045 = .slice (some ⟨fb, 0, none⟩) 1 c) (hf : Fb w fb 2 (k : Int) n) (m : Mem w b W 0 R [obK wl n] []) (z : WF W 0 [obK wl n] []) (hn : wl.length = n) (hy : wl[k]? = some y) (hn3 : n ≤ 40)
    (hD : ∀ Y, Ops Y → Calls Tryz.prog 52 #[.int .u64 (y : Int)] Y fun e w' => e = .returned (.tuple #[.agg #[.int .i64 io, .int .i64 ia, .int .i64 ib, .int .i64 ic, .int .i64 inn], .int .i64 0]) ∧ Below Y.heap.size Y w') :
    Calls Tryz.prog 28 #[.pointer (some ⟨g, 0, none⟩)] w fun e w' => e = .returned (.tuple #[.agg #[.int .i64 io, .int .i64 ia, .int .i64 ib, .int .i64 ic, .int .i64 inn], .bool true]) ∧ Fb w' fb 2 ((k + 1 : Nat) : Int) n ∧ Fr (· = fb) w w' := by
  have hkn : k < n := by rw [← hn]; exact (List.getElem?_eq_some_iff.1 hy).1
  obtain ⟨X, hX⟩ : ∃ X, w.alloc (.cells #[.int .i64 0, .int .i64 0, .int .i64 0, .int .i64 0, .int .i64 0] 66) = X := ⟨_, rfl⟩
  have hblk := heap_alloc_new w (.cells #[.int .i64 0, .int .i64 0, .int .i64 0, .int .i64 0, .int .i64 0] 66)
  have hbX := mcb_one w (.cells #[.int .i64 0, .int .i64 0, .int .i64 0, .int .i64 0, .int .i64 0] 66)
  rw [hX] at hblk hbX
  have HXE := Lib.hid hX
  have hxX := hx.below hbX
  have hfX := hf.below hbX
  have hmX := m.below hbX
  have x0 := hxX.cell (j := 0) (by omega)
  rw [h0] at x0
  obtain ⟨f0, f1, f2, f3, f4⟩ := hfX.cells
  have HTP := Lib.hid (top_mc hxX h1)
  have HT := Lib.hid (fun Y => show Calls Tryz.prog 51 #[.int .u64 2] Y (fun e w' => e = .returned (.int .i64 1) ∧ Y = w') from (toptr_any 2 Y (by omega) (by omega)).mono fun e w' ⟨h1, h2⟩ => ⟨by rw [h1]; rfl, h2⟩)
  have HL := Lib.hid (fun (q : Nat) => show Calls Tryz.prog 50 #[.pointer (some ⟨b, 0, none⟩), .int .i64 1, .int .i64 (k : Int)] (X.drewN q) (fun e w' => e = .returned (.tuple #[.int .u64 (y : Int), .int .i64 0]) ∧ ∃ q', w' = X.drewN q') from
    (show Calls _ _ _ _ _ from loadX_any (s := ⟨[obK wl n], []⟩) (hmX.drewN q) z 1 (by decide) k).mono fun e w' ⟨h1, q', h2⟩ => ⟨by
      rw [h1]
      have := obK_at wl hy W
      rw [hn] at this
      rw [this]; rfl, q + q', by rw [h2, World.drewN_drewN]⟩)
  have HBX := Lib.hid (And.intro hbX (And.intro hfX (And.intro hblk (hb0.trans (hbX.mono hb0.size)))))
  have HDD := Lib.hid hD
  have HFW := Lib.hid hf.lt
  have HO := Lib.hid hops
  have d0 : decide ((k : Int) < 0) = false := decide_eq_false (by omega)
  have d1 : decide ((n : Int) ≤ (k : Int)) = false := decide_eq_false (by omega)
  have hwk : IntKind.i64.wrap (k : Int) = (k : Int) := by rw [IntKind.wrap_i64]; omega
  clear hb0 hops hx h0 h1 hf m z hn hy hD hX hblk hbX hxX hfX hmX
  go_enter Tryz.func28, Tryz.ntmps28
  go_wp2_with fail
  rw [HXE.out]
  go_wp2_with fail
  refine (HTP.out).mono ?_
  rintro e w1 ⟨rfl, q, hq⟩
  subst w1
  go_wp2_with fail
  go_quiet (fail)
  obtain ⟨q2, hq2⟩ : ∃ q2, (X.drewN q).drewN nq = X.drewN q2 := ⟨_, World.drewN_drewN ..⟩
  rw [hq2]
  go_wp2_with fail
  have hd : X.cell? ⟨g, 0, none⟩ = some (.pointer (some ⟨b, 0, none⟩)) ∧ X.cell? ⟨fb, 0, none⟩ = some (.int .u64 2) ∧ X.cell? ⟨fb, 2, none⟩ = some (.int .i64 0) ∧ X.cell? ⟨fb, 1, none⟩ = some (.int .i64 (k : Int)) := ⟨x0, f0, f2, f1⟩
  go_region_held3 (fun Y => Y.cell? ⟨g, 0, none⟩ = some (.pointer (some ⟨b, 0, none⟩)) ∧ Y.cell? ⟨fb, 0, none⟩ = some (.int .u64 2) ∧ Y.cell? ⟨fb, 2, none⟩ = some (.int .i64 0) ∧ Y.cell? ⟨fb, 1, none⟩ = some (.int .i64 (k : Int)))
    (first | (with_reducible assumption) | exact hd | (rw [hw5]; exact hd))
    (first | (go_at_call 51; (with_reducible refine (HT.out _).mono ?_); rintro e w' ⟨rfl, hw'⟩; subst w') | (go_at_call 50; (with_reducible refine (HL.out (q2 + 1)).mono ?_); rintro e w5 ⟨rfl, q5, hw5⟩))
  subst w5
  have HDQ := Lib.hid (HDD.out (X.drewN q5) (ops_below HO.out (Nat.le_refl _) ⟨HBX.out.2.2.2.os, HBX.out.2.2.2.tape, HBX.out.2.2.2.output, HBX.out.2.2.2.size, HBX.out.2.2.2.block⟩))
  go_wp2_with fail
  refine HDQ.out.mono ?_
  rintro e w6 ⟨rfl, hb6⟩
  have hb6 : Below X.heap.size X w6 := ⟨hb6.os, hb6.tape, hb6.output, hb6.size, hb6.block⟩
  have hb7 := mcb_one w6 (.cells #[.int .i64 io, .int .i64 ia, .int .i64 ib, .int .i64 ic, .int .i64 inn] 66)
  have hn7 := heap_alloc_new w6 (.cells #[.int .i64 io, .int .i64 ia, .int .i64 ib, .int .i64 ic, .int .i64 inn] 66)
  have hF7 := (HBX.out.2.1.below hb6).below hb7
  have rb := (hb7.block w.heap.size (by have := (Array.getElem?_eq_some_iff.1 HBX.out.2.2.1).1; have := hb6.size; omega)).trans ((hb6.block w.heap.size (Array.getElem?_eq_some_iff.1 HBX.out.2.2.1).1).trans HBX.out.2.2.1)
  obtain ⟨X7, hX7⟩ : ∃ X7, w6.alloc (.cells #[.int .i64 io, .int .i64 ia, .int .i64 ib, .int .i64 ic, .int .i64 inn] 66) = X7 := ⟨_, rfl⟩
  obtain ⟨t7, ht7⟩ : ∃ t7, w6.heap.size = t7 := ⟨_, rfl⟩
  have hwr : w.heap.size < t7 := by have := (Array.getElem?_eq_some_iff.1 HBX.out.2.2.1).1; have := hb6.size; omega
  have HB6 := Lib.hid hb6
  have hfw : fb < w.heap.size := HFW.out
  have HX7 := Lib.hid (And.intro hX7 (And.intro hb7 (And.intro hn7 (And.intro hF7 rb))))
  have HT7 := Lib.hid ht7
  clear hb6 f0 f1 f2 f3 f4 x0 hX7 ht7 hb7 hn7 hF7 rb
  go_upto_region 6 with fail
  rw [HX7.out.1, HT7.out]
  obtain ⟨f0, f1, f2, f3, f4⟩ := HX7.out.2.2.2.1.cells
  have gz := HX7.out.2.2.2.1.frozen 1
  have hn7 := HX7.out.2.2.1
  rw [HX7.out.1, HT7.out] at hn7
  rw [HX7.out.1] at f0 f1 f2 f3 f4 gz
  have rb := HX7.out.2.2.2.2
  rw [HX7.out.1] at rb
  have i0 : X7.cell? ⟨t7, 0, none⟩ = some (.int .i64 io) := mc_cell hn7 0
  have i1 : X7.cell? ⟨t7, 1, none⟩ = some (.int .i64 ia) := mc_cell hn7 1
  have i2 : X7.cell? ⟨t7, 2, none⟩ = some (.int .i64 ib) := mc_cell hn7 2
  have i3 : X7.cell? ⟨t7, 3, none⟩ = some (.int .i64 ic) := mc_cell hn7 3
  have i4 : X7.cell? ⟨t7, 4, none⟩ = some (.int .i64 inn) := mc_cell hn7 4
  have r0 : X7.cell? ⟨w.heap.size, 0, none⟩ = some (.int .i64 0) := mc_cell rb 0
  have r1 : X7.cell? ⟨w.heap.size, 1, none⟩ = some (.int .i64 0) := mc_cell rb 1
  have r2 : X7.cell? ⟨w.heap.size, 2, none⟩ = some (.int .i64 0) := mc_cell rb 2
  have r3 : X7.cell? ⟨w.heap.size, 3, none⟩ = some (.int .i64 0) := mc_cell rb 3
  have r4 : X7.cell? ⟨w.heap.size, 4, none⟩ = some (.int .i64 0) := mc_cell rb 4
  have z0 := mc_froz rb 0
  have z1 := mc_froz rb 1
  have z2 := mc_froz rb 2
  have z3 := mc_froz rb 3
  have z4 := mc_froz rb 4
  have n1 : fb ≠ t7 := by omega
  have n2 : t7 ≠ fb := by omega
  have n3 : w.heap.size ≠ fb := by omega
  have n4 : fb ≠ w.heap.size := by omega
  have n5 : w.heap.size ≠ t7 := by omega
  have n6 : t7 ≠ w.heap.size := by omega
  clear hn7 rb f0 f2 f3 f4
  have hbz := HX7.out.2.1
  rw [HX7.out.1] at hbz
  have hall : Below w.heap.size w X7 := (HBX.out.1.trans (HB6.out.mono HBX.out.1.size)).trans (hbz.mono (HBX.out.1.trans (HB6.out.mono HBX.out.1.size)).size)
  have hfin := HX7.out.2.2.2.1
  rw [HX7.out.1] at hfin
  have HF1 := Lib.hid (hfin.go ((k : Int) + 1))
  have HA := Lib.hid hall
  clear hbz hall hfin
  go_wp2_with fail
  refine bodyPost_ret (v := .tuple #[.agg #[.int .i64 io, .int .i64 ia, .int .i64 ib, .int .i64 ic, .int .i64 inn], .bool true]) (by simp [results, Tryz.results28, go_sem, r0, r1, r2, r3, r4]) rfl ⟨rfl, ?_, ?_⟩
  · rw [show ((k + 1 : Nat) : Int) = (k : Int) + 1 from by omega]
    refine HF1.out.fr (O := (· = w.heap.size)) ((((((Fr.refl (· = w.heap.size) _).setCell (p := ⟨w.heap.size, 0, none⟩) (.inl rfl) _).setCell (p := ⟨w.heap.size, 1, none⟩) (.inl rfl) _).setCell (p := ⟨w.heap.size, 2, none⟩) (.inl rfl) _).setCell (p := ⟨w.heap.size, 3, none⟩) (.inl rfl) _).setCell (p := ⟨w.heap.size, 4, none⟩) (.inl rfl) _) n4
  · exact (((((((Fr.of_below (O := (· = fb)) HA.out).setCell (p := ⟨fb, 1, none⟩) (.inl rfl) _).setCell (p := ⟨w.heap.size, 0, none⟩) (.inr (Nat.le_refl _)) _).setCell (p := ⟨w.heap.size, 1, none⟩) (.inr (Nat.le_refl _)) _).setCell (p := ⟨w.heap.size, 2, none⟩) (.inr (Nat.le_refl _)) _).setCell (p := ⟨w.heap.size, 3, none⟩) (.inr (Nat.le_refl _)) _).setCell (p := ⟨w.heap.size, 4, none⟩) (.inr (Nat.le_refl _)) _)
end Go.Proofs.YtpoblealgooamaaGreatDoor
