/- The document's new machine as a row of numbers. Conditions: the machine is new. -/
import Derived.Test.YtpoblealgooamaaGreatDoorMcRefO
namespace Go.Proofs.YtpoblealgooamaaGreatDoor
open Go Go.RowKit Go.Proofs.YtpoblealgooamaaGreatDoor.IsaL
theorem own_nilU (Y : World) (B : Nat) : Y.ownsRow B 31 1 (.slice none 0 0) 0 (u64s (onR 0)) := ⟨rfl, .inl ⟨rfl, rfl⟩⟩
theorem make_int0 : ∃ cs : Array Value, ∀ w : World, (Instr.makeSlice 106 (.int .i64 0) (.int .i64 0)).run Tryz.prog w = .ok (.slice (some ⟨w.heap.size, 0, none⟩) 0 0) (w.alloc (.cells cs 3)) := by
  obtain ⟨i0, hi, hz0, hz1, hz2⟩ := info_parts infoI
  refine ⟨madeCells (Value.int .i64 0).cells (0 * i0.size), fun w => ?_⟩
  exact run_make (P := Tryz.prog) w 106 3 i0 (.int .i64 0) Tryz.underlying106 hi hz0 .i64 .i64 (0 : Nat) (0 : Nat) (by omega) (Int.le_refl _) (by rw [hz2]; omega) (by omega)
theorem two_cells (w : World) (t : TypeId) (g : Nat) (hg : w.heap.size = g) : ∀ j u, [Value.int .u64 1, .int .u64 0][j]? = some u → (w.alloc (.cells #[.int .u64 1, .int .u64 0] t)).cell? ((⟨g, 0, none⟩ : Addr).add j) = some u := by
  subst hg
  exact World.news_of_block (cs := #[.int .u64 1, .int .u64 0]) (heap_alloc_new w _)
set_option maxRecDepth 100000 in
set_option maxHeartbeats 8000000 in
theorem refgraph_new {w : World} {W S : Int} {gl rb g n c : Nat} (h : RefNew w W S gl rb) (hn : n ≤ 65536) (hc : ∀ k, k < n → w.cell? ⟨g, k * 3, none⟩ = some (.bool false) ∧ w.cell? ⟨g, k * 3 + 1, none⟩ = some (.int .i64 0) ∧ w.cell? ⟨g, k * 3 + 2, none⟩ = some (.int .i64 0)) (hg : g < w.heap.size) :
    Calls Tryz.prog 65 #[.pointer (some ⟨rb, 0, none⟩), .slice (some ⟨g, 0, none⟩) n c] w fun e w' => (∃ v, e = .returned v ∧ w'.ownsRow w.heap.size 31 1 v (n + n) (u64s (onR n))) ∧ Below w.heap.size w w' := by
  obtain ⟨i0, hi, hz0, hz1, hz2⟩ := info_parts infoU64
  obtain ⟨cs, hmk⟩ := make_int0
  have HO := Lib.hid (reforder_new (c := c) h hn (fun k hk => (hc k hk).1))
  have HH := Lib.hid h
  have HW := Lib.hid (fun o Y => ref_word_zero o Y)
  have hpn : ((some (⟨rb, 0, none⟩ : Addr)) == none) = false := rfl
  have HC := Lib.hid hc
  clear h
  clear hc
  go_enter Tryz.func65, Tryz.ntmps65
  go_wp2_with fail
  refine HO.out.mono ?_
  rintro e w1 ⟨rfl, hb1⟩
  have c2 := (HH.out.below hb1).at (j := 2) (v := .slice none 0 0) rfl
  have hmw := hmk w1
  have hb2 := mcb_one w1 (.cells cs 3)
  obtain ⟨w2, hw2⟩ : ∃ w2, w1.alloc (.cells cs 3) = w2 := ⟨_, rfl⟩
  rw [hw2] at hb2 hmw
  have HB2 := Lib.hid (hb1.trans (hb2.mono hb1.size))
  clear hb1 hb2 hw2 hmk
  go_wp2_with fail
  go_loopw [7] (fun i wr => i = .int .i64 0 ∧ wr = w2) (fun _ _ => 0)
  case atStart => exact ⟨rfl, rfl⟩
  case round =>
    obtain ⟨rfl, rfl⟩ := hrel
    go_wp2_with fail
    go_loopw [8, 9] (fun o i wq => ∃ k : Nat, k ≤ n ∧ i = .int .i64 k ∧ wq.ownsRow w.heap.size 31 1 o (k + k) (u64s (onR k)) ∧ Below w.heap.size w wq) (fun _ i _ => n - (intOf i).toNat)
    case atStart => exact ⟨0, by omega, rfl, own_nilU _ _, HB2.out⟩
    case round =>
      obtain ⟨k, hk, rfl, hrow, hbl⟩ := hrel
      clear HB2 hmw c2
      by_cases hlt : k < n
      · obtain ⟨q0, q1, q2⟩ := HC.out k hlt
        have d0 := (hbl.cell (p := ⟨g, k * 3, none⟩) hg).trans q0
        have d1 := (hbl.cell (p := ⟨g, k * 3 + 1, none⟩) hg).trans q1
        have d2 := (hbl.cell (p := ⟨g, k * 3 + 2, none⟩) hg).trans q2
        have b0 : (0 : Int) ≤ (k : Int) := by omega
        have b1 : (k : Int) < n := by omega
        have HROW := Lib.hid hrow
        have HBL := Lib.hid hbl
        clear hrow hbl q0 q1 q2
        go_wp2_with fail
        refine (HW.out _ _).mono ?_
        rintro e w3 ⟨rfl, hw3⟩
        obtain ⟨X, hX⟩ : ∃ X, wr.alloc (.cells #[.bool false, .int .i64 0, .int .i64 0] 59) = X := ⟨_, rfl⟩
        have hXs : X.heap.size = wr.heap.size + 1 := by rw [← hX]; simp
        rw [hX] at hw3
        have HTC := Lib.hid (show ∀ j u, [Value.int .u64 1, .int .u64 0][j]? = some u → w3.cell? ((⟨wr.heap.size + 1, 0, none⟩ : Addr).add j) = some u from by rw [hw3]; exact two_cells X _ _ hXs)
        have HBL3 := Lib.hid (show Below w.heap.size w w3 from by rw [hw3, ← hX]; exact (HBL.out.alloc HBL.out.size _).alloc (by simp; have := HBL.out.size; omega) _)
        have HROW3 := Lib.hid (show w3.ownsRow w.heap.size 31 1 u8 (k + k) (u64s (onR k)) from by rw [hw3, ← hX]; exact (HROW.out.alloc _).alloc _)
        clear hw3 hX hXs HROW HBL
        go_wp2_with (at_builtin; go_loud (refine wpList_append_lies _ rfl _ _ 52 rfl w.heap.size 31 i0 (.int .u64 0) 1 8 Tryz.underlying52 hi hz0 hz1 hz2 rfl (by decide) u8 (k + k) (u64s (onR k)) rfl HROW3.out ⟨wr.heap.size + 1, 0, none⟩ 2 2 [.int .u64 1, .int .u64 0] rfl rfl HTC.out (by simp [Value.oneCell']) (by decide) (by unfold maxLen; omega) (by omega) HBL3.out.size w3.heap.size rfl ?_); intro g7 cap7 w7 hown7 hgrow7 _ _; rw [onR_val, show k + k + 2 = (k + 1) + (k + 1) by omega] at hown7; have HR7 := Lib.hid hown7; have HB7 := Lib.hid (gr_from HBL3.out HROW3.out hgrow7 (Nat.le_refl _)); clear hown7 hgrow7)
        go_roundw
        case rel => exact ⟨k + 1, hlt, by go_num, by have := HR7.out; rw [← show k + k + 2 = (k + 1) + (k + 1) by omega] at this ⊢; exact this, HB7.out⟩
        case measure => simp [intOf]; omega
      · obtain rfl : k = n := by omega
        have b1 : ¬ (k : Int) < k := by omega
        have HROW := Lib.hid hrow
        have HBL := Lib.hid hbl
        clear hrow hbl
        go_wp2_with fail
        go_loopw [8, 10] (fun o i wz => o = u8 ∧ i = .int .i64 0 ∧ wz = wr) (fun _ _ _ => 0)
        case atStart => exact ⟨rfl, rfl, rfl⟩
        case round =>
          obtain ⟨rfl, rfl, rfl⟩ := hrel
          go_wp2_with fail
          go_ret
          exact ⟨⟨_, rfl, HROW.out⟩, HBL.out⟩
theorem graph_of_row {w : World} {W S : Int} {gl rb g n c B : Nat} (h : RefNew w W S gl rb) (ho : w.ownsRow B 59 3 (.slice (some ⟨g, 0, none⟩) n c) n (zsR n)) (h0 : 0 < n) (hn : n ≤ 65536) :
    Calls Tryz.prog 65 #[.pointer (some ⟨rb, 0, none⟩), .slice (some ⟨g, 0, none⟩) n c] w fun e w' => (∃ v, e = .returned v ∧ w'.ownsRow w.heap.size 31 1 v (n + n) (u64s (onR n))) ∧ Below w.heap.size w w' := by
  obtain ⟨g', c', he, _, hg, hc⟩ := zsR_row ho h0
  injection he with e1 _ _
  injection e1 with e1
  injection e1 with e1
  subst e1
  exact refgraph_new h hn hc hg
set_option maxRecDepth 100000 in
set_option maxHeartbeats 8000000 in
theorem refstate_new {w : World} {W S : Int} {gl rb : Nat} (h : RefNew w W S gl rb) :
    Calls Tryz.prog 34 #[.pointer (some ⟨rb, 0, none⟩)] w fun e w' => (∃ v, e = .returned v ∧ w'.ownsRow w.heap.size 31 1 v (1025 + 1025) (u64s (onR 1025))) ∧ Below w.heap.size w w' := by
  obtain ⟨i0, hi, hz0, hz1, hz2⟩ := info_parts infoRWord
  have HH := Lib.hid h
  have HL2 := Lib.hid (zsR_len 1024)
  have hrb := (Array.getElem?_eq_some_iff.1 h.mb).1
  have hpn : ((some (⟨rb, 0, none⟩ : Addr)) == none) = false := rfl
  have c54 := h.at (j := 54) (v := .slice (some ⟨gl, 0, none⟩) 1024 1024) rfl
  have c58 := h.at (j := 58) (v := .bool false) rfl
  have c59 := h.at (j := 59) (v := .int .i64 0) rfl
  have c60 := h.at (j := 60) (v := .int .i64 0) rfl
  have k54 := mcb_cell (mcb_one w.drew (.cells #[.bool false, .int .i64 0, .int .i64 0] 59)) (show w.drew.cell? _ = _ from c54)
  have HGL := Lib.hid ((h.below (w1 := w.drew.alloc (.cells #[.bool false, .int .i64 0, .int .i64 0] 59)) ((Below.refl _ w).drew.alloc (Nat.le_refl _) _)).gls)
  have HRO := Lib.hid (show (w.drew.alloc (.cells #[.bool false, .int .i64 0, .int .i64 0] 59)).ownsRow w.heap.size 59 3 (.slice (some ⟨w.heap.size, 0, none⟩) 1 1) 1 (zsR 1) from World.ownsRow_lit w.drew #[.bool false, .int .i64 0, .int .i64 0] 1 (Nat.le_refl _) (by unfold maxLen; omega) rfl)
  clear h
  go_enter Tryz.func34, Tryz.ntmps34
  go_wp2_with fail
  go_region_law (first | (refine step_append_lies _ (by rfl) _ _ 56 (by rfl) w.heap.size 59 i0 (.agg #[.bool false, .int .i64 0, .int .i64 0]) 3 24 Tryz.underlying56 hi hz0 hz1 hz2 rfl (by decide) (.slice (some ⟨w.heap.size, 0, none⟩) 1 1) 1 (zsR 1) (by rfl) HRO.out ⟨gl, 0, none⟩ 1024 1024 (zsR 1024) (by rfl) HL2.out HGL.out (zsR_one 1024) (by decide) (by unfold maxLen; omega) (by omega) (by simp) (w.heap.size + 1) (by simp) ?_; intro g6 cap6 w6 hown6 hgrow6 _ _; have hb6 := gr_from (B := w.heap.size) (w := w) ((Below.refl _ w).drew.alloc (Nat.le_refl _) _) HRO.out hgrow6 (Nat.le_refl _); rw [← zsR_add] at hown6; have HG6 := Lib.hid ((graph_of_row (n := 1025) (HH.out.below hb6) hown6 (by omega) (by omega)).mono (fun e w' h => And.intro h.1 (hb6.trans (h.2.mono hb6.size)))); have HS6 := Lib.hid hb6.size; clear hown6 hgrow6 hb6) | (go_simp; go_at_call 65; refine HG6.out.mono ?_; rintro e w7 ⟨⟨v7, rfl, ho7⟩, hb7⟩; have HB7 := Lib.hid hb7; have HO7 := Lib.hid ho7; clear hb7 ho7))
  all_goals
    go_wp2_with fail
    go_ret
    exact ⟨⟨_, rfl, own_mono HO7.out HS6.out⟩, HB7.out⟩
end Go.Proofs.YtpoblealgooamaaGreatDoor
