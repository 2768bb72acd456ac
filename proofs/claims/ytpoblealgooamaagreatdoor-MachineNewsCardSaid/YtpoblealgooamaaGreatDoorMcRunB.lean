/- A machine begins its run, and fetches an instruction. Conditions: the machine's cells. -/
import Derived.Test.YtpoblealgooamaaGreatDoorMcRun
import Derived.Test.YtpoblealgooamaaGreatDoorMcLoad
import Derived.Deep.AppendLies
namespace Go.Proofs.YtpoblealgooamaaGreatDoor
open Go Go.RowKit Go.Proofs.YtpoblealgooamaaGreatDoor.IsaL
theorem infoFr : (Tryz.prog.info? 94).map (fun i => (i.zero, i.size, i.bytes)) = some (some (.agg #[.int .u64 0, .int .i64 0, .int .i64 0, .int .i64 0, .int .i64 0]), 5, 40) := by kernel_rfl
theorem grown_M {A w6 : World} {g : Nat} (h : A.grownBy w6 (Value.slice none 0 0).ownBlock) (hg : g < A.heap.size) : w6.heap[g]? = A.heap[g]? := h.block g hg (by show some g ≠ none; simp)
theorem own_nilM (Y : World) (B : Nat) : Y.ownsRow B 94 5 (.slice none 0 0) 0 [] := ⟨rfl, .inl ⟨rfl, rfl⟩⟩
theorem cells5_M (w : World) (a b c d e : Value) (t : TypeId) (g : Nat) (hg : w.heap.size = g) : ∀ j u, [a, b, c, d, e][j]? = some u → (w.alloc (.cells #[a, b, c, d, e] t)).cell? ((⟨g, 0, none⟩ : Addr).add j) = some u := by
  subst hg
  intro j u hu
  have hadd : (⟨w.heap.size, 0, none⟩ : Addr).add j = ⟨w.heap.size, j, none⟩ := by unfold Addr.add; split <;> simp_all
  rw [hadd, mc_cell (heap_alloc_new w _) j]
  simpa using hu
theorem one5_M (a b c d e : Value) (ha : a.oneCell' = true) (hb : b.oneCell' = true) (hc : c.oneCell' = true) (hd : d.oneCell' = true) (he : e.oneCell' = true) : ∀ u ∈ [a, b, c, d, e], u.oneCell' = true := by
  intro u hu
  simp at hu
  rcases hu with rfl | rfl | rfl | rfl | rfl <;> assumption
/-- the frame in its row -/
theorem fb_of {w6 : World} {B g6 cap6 n : Nat} (h : w6.ownsRow B 94 5 (.slice (some ⟨g6, 0, none⟩) (0 + 1) cap6) (0 + 1) ([] ++ [.int .u64 2, .int .i64 0, .int .i64 0, .int .i64 (n : Int), .int .i64 0])) : Fb w6 g6 2 0 n ∧ B ≤ g6 := by
  rcases h.2 with ⟨h1, _⟩ | ⟨g, cap, cur, h1, h2, h3, h4, h5, h6, h7⟩
  · cases h1
  · injection h1 with h1 _ _
    injection h1 with h1
    injection h1 with h1
    subst h1
    refine ⟨⟨cur, h3, ?_⟩, h2⟩
    have hj : ∀ j v, [Value.int .u64 2, .int .i64 0, .int .i64 0, .int .i64 (n : Int), .int .i64 0][j]? = some v → cur[j]? = some v := fun j v hv => by
      rw [List.nil_append] at h7
      rw [← h7, List.getElem?_take] at hv
      split at hv
      · simpa using hv
      · cases hv
    exact ⟨hj 0 _ rfl, hj 1 _ rfl, hj 2 _ rfl, hj 3 _ rfl, hj 4 _ rfl⟩
set_option maxRecDepth 100000 in
set_option maxHeartbeats 8000000 in
/-- push, of the first frame -/
theorem push_mc {w : World} {g b W n : Nat} {F : Nat → Value} {R : Nat → Value} {o : Ob} (hx : Bx w g F) (h0 : F 0 = .pointer (some ⟨b, 0, none⟩)) (h1 : F 1045 = .slice none 0 0) (h2 : F 1046 = .slice none 0 0) (m : Mem w b W 0 R [o] []) (z : WF W 0 [o] []) (hn : o.ws.length = n) (ht : o.t = 0) (hn3 : n ≤ 40) :
    Calls Tryz.prog 48 #[.pointer (some ⟨g, 0, none⟩), .int .u64 2] w fun e w' => (∃ v, e = .returned v) ∧ ∃ fb c, Bx w' g (mup F 1045 (.slice (some ⟨fb, 0, none⟩) 1 c)) ∧ Fb w' fb 2 0 n ∧ w.heap.size ≤ fb ∧ Fr (· = g) w w' := by
  obtain ⟨i0, hi, hz0, hz1, hz2⟩ := info_parts infoFr
  have c0 := hx.cell (j := 0) (by omega)
  rw [h0] at c0
  have c1 := hx.cell (j := 1045) (by omega)
  rw [h1] at c1
  have c2 := hx.cell (j := 1046) (by omega)
  rw [h2] at c2
  have z1 := hx.frozen 1045
  have HTP := Lib.hid (fun Y => show Calls Tryz.prog 51 #[.int .u64 2] Y (fun e w' => e = .returned (.int .i64 1) ∧ Y = w') from (toptr_any 2 Y (by omega) (by omega)).mono fun e w' ⟨h1, h2⟩ => ⟨by rw [h1]; rfl, h2⟩)
  have HLK := Lib.hid (fun (q : Nat) => show Calls Tryz.prog 47 #[.pointer (some ⟨b, 0, none⟩), .int .i64 1] (w.drewN q) (fun e w' => e = .returned (.tuple #[.int .i64 (o.k : Int), .int .i64 (n : Int), .int .i64 0, .int .i64 0]) ∧ ∃ q', w' = (w.drewN q).drewN q') from
    (lookX_any (s := ⟨[o], []⟩) (m.drewN q) z 1 (by decide)).mono fun e w' ⟨h1, h2⟩ => ⟨by
      rw [h1]
      have : lookX 0 W ⟨[o], []⟩ 1 = (o.k, n, 0, 0) := by
        unfold lookX
        simp only [idx_one]
        show (o.k, o.ws.length, o.t, 0) = _
        rw [hn, ht]
      rw [this]; rfl, h2⟩)
  have HLKd := Lib.hid (show Calls Tryz.prog 47 #[.pointer (some ⟨b, 0, none⟩), .int .i64 1] w.drew (fun e w' => e = .returned (.tuple #[.int .i64 (o.k : Int), .int .i64 (n : Int), .int .i64 0, .int .i64 0]) ∧ ∃ q', w' = w.drewN q') from (HLK.out 1).mono fun e w' ⟨h1, q', h2⟩ => ⟨h1, 1 + q', by rw [h2, World.drewN_drewN]⟩)
  have HX := Lib.hid hx
  clear hx h0 h1 h2 m z hn ht HLK
  go_enter Tryz.func48, Tryz.ntmps48
  go_wp2_with fail
  go_region_held3 (fun Y => Y.cell? ⟨g, 0, none⟩ = some (.pointer (some ⟨b, 0, none⟩))) (first | (with_reducible assumption) | exact c0 | (rw [hw2]; exact c0)) (first | (go_at_call 51; (with_reducible refine (HTP.out _).mono ?_); rintro e w' ⟨rfl, hw'⟩; subst w') | (go_at_call 47; (with_reducible refine HLKd.out.mono ?_); rintro e w2 ⟨rfl, q2, hw2⟩))
  subst w2
  have hwn : IntKind.i64.wrap (n : Int) = (n : Int) := by rw [IntKind.wrap_i64]; omega
  go_wp2_with fail
  have hw9 : g < w.heap.size := HX.out.lt
  have k1 := fun (q : Nat) (ob : Obj) => mcb_cell (mcb_one (w.drewN q) ob) (show (w.drewN q).cell? _ = _ from c1)
  have k2 := fun (q : Nat) (ob : Obj) => mcb_cell (mcb_one (w.drewN q) ob) (show (w.drewN q).cell? _ = _ from c2)
  have k3 := fun (q : Nat) (ob : Obj) => ((mcb_one (w.drewN q) ob).frozen (p := ⟨g, 1045, none⟩) hw9).trans (show (w.drewN q).frozen? _ = _ from z1)
  go_region_law ((refine step_append_lies _ (by rfl) _ _ 51 (by rfl) w.heap.size 94 i0 (.agg #[.int .u64 0, .int .i64 0, .int .i64 0, .int .i64 0, .int .i64 0]) 5 40 Tryz.underlying51 hi hz0 hz1 hz2 rfl (by decide) (.slice none 0 0) 0 [] (by rfl) (own_nilM _ _) ⟨w.heap.size, 0, none⟩ 1 1 [.int .u64 2, .int .i64 0, .int .i64 0, .int .i64 (n : Int), .int .i64 0] (by rfl) rfl (cells5_M _ _ _ _ _ _ _ _ (by simp)) (one5_M _ _ _ _ _ rfl rfl rfl rfl rfl) (by omega) (by unfold maxLen; omega) (by omega) (by simp) (w.heap.size + 1) (by simp) ?_; intro g6 cap6 w6 hown6 hgrow6 hblk6 hlt6; have HFB := Lib.hid (fb_of hown6); have d6 : w6.cell? ⟨g, 1045, none⟩ = some (.slice none 0 0) := (World.cell?_of_block (grown_M hgrow6 (Nat.lt_of_lt_of_le hw9 (by simp)))).trans (k1 _ _); have e6 : w6.frozen? ⟨g, 1045, none⟩ = false := (World.frozen?_of_block (grown_M hgrow6 (Nat.lt_of_lt_of_le hw9 (by simp)))).trans (k3 _ _); have HGR := Lib.hid hgrow6; clear hown6 hgrow6 hblk6 hlt6))
  all_goals
    have HFG := Lib.hid (show Fr (· = g) w w6 from ⟨HGR.out.os, HGR.out.tape, HGR.out.output, Nat.le_trans (by simp) HGR.out.size, fun i hi _ => (grown_M HGR.out (Nat.lt_of_lt_of_le hi (by simp))).trans (Below.heap_alloc _ _ i hi)⟩)
    have HXN := Lib.hid ((HX.out.fr (O := fun i => i ≠ g ∧ w.heap.size ≤ i) ⟨HGR.out.os, HGR.out.tape, HGR.out.output, Nat.le_trans (by simp) HGR.out.size, fun i hi _ => (grown_M HGR.out (Nat.lt_of_lt_of_le hi (by simp))).trans (Below.heap_alloc _ _ i hi)⟩ (fun q => q.1 rfl)).set 1045 (.slice (some ⟨g6, 0, none⟩) 1 cap6))
    have hne : g6 ≠ g := by have := HFB.out.2; omega
    have HFN := Lib.hid (HFB.out.1.fr ((Fr.refl (· = g) w6).setCell (p := ⟨g, 1045, none⟩) (.inl rfl) (.slice (some ⟨g6, 0, none⟩) 1 cap6)) hne)
    clear hi hz0 hz1 hz2 k1 k2 k3 d6 e6
    go_wp2_with fail
    refine bodyPost_end (results_none rfl _ _ _) rfl ?_
    exact ⟨⟨_, rfl⟩, g6, cap6, HXN.out, HFN.out, HFB.out.2, HFG.out.setCell (p := ⟨g, 1045, none⟩) (.inl rfl) _⟩
end Go.Proofs.YtpoblealgooamaaGreatDoor
