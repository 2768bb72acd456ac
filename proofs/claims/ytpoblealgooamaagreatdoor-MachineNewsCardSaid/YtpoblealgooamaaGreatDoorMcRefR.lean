/- The document's new machine: its words, and that nothing can be reached from them. Conditions: the machine is new. -/
import Derived.Test.YtpoblealgooamaaGreatDoorMcZs
import Derived.Test.YtpoblealgooamaaGreatDoorMcWord
import Derived.Test.YtpoblealgooamaaGreatDoorGcOne
import Derived.Deep.AppendLies
namespace Go.Proofs.YtpoblealgooamaaGreatDoor
open Go Go.RowKit Go.Proofs.YtpoblealgooamaaGreatDoor.IsaL
theorem refM_regs (W S : Int) (gl : Nat) : ∀ j u, (zsR 16)[j]? = some u → (refM W S gl)[4 + j]? = some u := by
  intro j u hj
  have e : ((refM W S gl).toList.drop 4).take 48 = zsR 16 := rfl
  rw [← e, List.getElem?_take] at hj
  split at hj
  · rw [List.getElem?_drop] at hj
    rw [← Array.getElem?_toList]
    exact hj
  · cases hj
theorem RefNew.at {w : World} {W S : Int} {gl rb : Nat} (h : RefNew w W S gl rb) {j : Nat} {v : Value} (hv : (refM W S gl)[j]? = some v) : w.cell? ⟨rb, j, none⟩ = some v := (mc_cell h.mb j).trans hv
theorem RefNew.regs {w : World} {W S : Int} {gl rb : Nat} (h : RefNew w W S gl rb) : ∀ j u, (zsR 16)[j]? = some u → w.cell? ((⟨rb, 4, none⟩ : Addr).add j) = some u := fun j u hj => by
  rw [show (⟨rb, 4, none⟩ : Addr).add j = ⟨rb, 4 + j, none⟩ from by simp [Addr.add]]
  exact h.at (refM_regs W S gl j u hj)
theorem RefNew.gls {w : World} {W S : Int} {gl rb : Nat} (h : RefNew w W S gl rb) : ∀ j u, (zsR 1024)[j]? = some u → w.cell? ((⟨gl, 0, none⟩ : Addr).add j) = some u := by
  obtain ⟨cs, hb, hc⟩ := h.gb
  refine zsR_cell 1024 (fun k hk => ?_)
  obtain ⟨a, b, c⟩ := hc k hk
  rw [Nat.zero_add]
  exact ⟨(mc_cell hb _).trans a, (mc_cell hb _).trans b, (mc_cell hb _).trans c⟩
theorem own_nilZ (Y : World) (B : Nat) : Y.ownsRow B 59 3 (.slice none 0 0) 0 [] := ⟨rfl, .inl ⟨rfl, rfl⟩⟩
theorem gr_from {B : Nat} {w w1 w2 : World} {v : Value} {n : Nat} {xs : List Value} {t : TypeId} {s : Nat} (hb : Below B w w1) (ho : w1.ownsRow B t s v n xs) (hg : w1.grownBy w2 v.ownBlock) (hB : B ≤ w.heap.size) : Below B w w2 := by
  refine hb.grown hg (Nat.le_trans hB hb.size) (fun k hk => ?_)
  rcases ho.2 with ⟨rfl, _⟩ | ⟨g, cap, cur, rfl, hbg, _⟩
  · cases hk
  · cases hk
    exact hbg
set_option maxRecDepth 100000 in
set_option maxHeartbeats 8000000 in
theorem refroots_new {w : World} {W S : Int} {gl rb : Nat} (h : RefNew w W S gl rb) :
    Calls Tryz.prog 63 #[.pointer (some ⟨rb, 0, none⟩)] w fun e w' => (∃ v, e = .returned v ∧ w'.ownsRow w.heap.size 59 3 v 1042 (zsR 1042)) ∧ Below w.heap.size w w' := by
  obtain ⟨i0, hi, hz0, hz1, hz2⟩ := info_parts infoRWord
  have HH := Lib.hid h
  have HR := Lib.hid h.regs
  have HL := Lib.hid (zsR_len 16)
  have HL2 := Lib.hid (zsR_len 1024)
  have hrb := (Array.getElem?_eq_some_iff.1 h.mb).1
  have hpn : ((some (⟨rb, 0, none⟩ : Addr)) == none) = false := rfl
  clear h
  go_enter Tryz.func63, Tryz.ntmps63
  go_wp2_with (at_builtin; refine wpList_append_lies _ rfl _ _ 56 rfl w.heap.size 59 i0 (.agg #[.bool false, .int .i64 0, .int .i64 0]) 3 24 Tryz.underlying56 hi hz0 hz1 hz2 rfl (by decide) (.slice none 0 0) 0 [] rfl (own_nilZ _ _) ⟨rb, 4, none⟩ 16 16 (zsR 16) rfl HL.out HR.out (zsR_one 16) (by decide) (by unfold maxLen; omega) (by omega) (Nat.le_refl _) w.heap.size rfl ?_; intro g1 cap1 w1 hown1 hgrow1 _ _; have HO1 := Lib.hid (show w1.ownsRow w.heap.size 59 3 (.slice (some ⟨g1, 0, none⟩) 16 cap1) 16 (zsR 16) from hown1); have HB1 := Lib.hid (gr_from (Below.refl _ w) (own_nilZ w w.heap.size) hgrow1 (Nat.le_refl _)); clear hown1 hgrow1)
  go_loopw [3, 4] (fun l i wr => l = .slice (some ⟨g1, 0, none⟩) 16 cap1 ∧ i = .int .i64 0 ∧ wr = w1) (fun _ _ _ => 0)
  case atStart => exact ⟨rfl, rfl, rfl⟩
  case round =>
    obtain ⟨rfl, rfl, rfl⟩ := hrel
    have hR1 : RefNew wr W S gl rb := HH.out.below HB1.out
    have HG1 := Lib.hid hR1.gls
    have c52 := hR1.at (j := 52) (v := .slice none 0 0) rfl
    have c54 := hR1.at (j := 54) (v := .slice (some ⟨gl, 0, none⟩) 1024 1024) rfl
    clear hR1
    go_wp2_with (at_builtin; refine wpList_append_lies _ rfl _ _ 56 rfl w.heap.size 59 i0 (.agg #[.bool false, .int .i64 0, .int .i64 0]) 3 24 Tryz.underlying56 hi hz0 hz1 hz2 rfl (by decide) (.slice (some ⟨g1, 0, none⟩) 16 cap1) 16 (zsR 16) rfl HO1.out ⟨gl, 0, none⟩ 1024 1024 (zsR 1024) rfl HL2.out HG1.out (zsR_one 1024) (by decide) (by unfold maxLen; omega) (by omega) HB1.out.size wr.heap.size rfl ?_; intro g2 cap2 w2 hown2 hgrow2 _ _; rw [← zsR_add] at hown2; have HO2 := Lib.hid (show w2.ownsRow w.heap.size 59 3 (.slice (some ⟨g2, 0, none⟩) 1040 cap2) 1040 (zsR 1040) from hown2); have HB2 := Lib.hid (gr_from HB1.out HO1.out hgrow2 (Nat.le_refl _)); have hR2 := HH.out.below HB2.out; have d55 := hR2.at (j := 55) (v := .bool false) rfl; have d56 := hR2.at (j := 56) (v := .int .i64 0) rfl; have d57 := hR2.at (j := 57) (v := .int .i64 0) rfl; have d58 := hR2.at (j := 58) (v := .bool false) rfl; have d59 := hR2.at (j := 59) (v := .int .i64 0) rfl; have d60 := hR2.at (j := 60) (v := .int .i64 0) rfl; clear hown2 hgrow2 hR2)
    go_region_law ((refine step_append_lies _ (by rfl) _ _ 56 (by rfl) w.heap.size 59 i0 (.agg #[.bool false, .int .i64 0, .int .i64 0]) 3 24 Tryz.underlying56 hi hz0 hz1 hz2 rfl (by decide) (.slice (some ⟨g2, 0, none⟩) 1040 cap2) 1040 (zsR 1040) (by rfl) ((HO2.out.drew).alloc _) ⟨w2.heap.size, 0, none⟩ 2 2 (zsR 2) (by rfl) rfl (World.news_of_block (heap_alloc_new w2.drew _)) (zsR_one 2) (by decide) (by unfold maxLen; omega) (by omega) (by have := HB2.out.size; simp; omega) (w2.heap.size + 1) (by simp) ?_; intro g3 cap3 w3 hown3 hgrow3 _ _; have HB3 := Lib.hid (gr_from (((HB2.out.drew).alloc HB2.out.size _)) ((HO2.out.drew).alloc _) hgrow3 (Nat.le_refl _)); rw [← zsR_add] at hown3; have HO3 := Lib.hid (show w3.ownsRow w.heap.size 59 3 (.slice (some ⟨g3, 0, none⟩) 1042 cap3) 1042 (zsR 1042) from hown3); clear hown3 hgrow3))
    all_goals
      go_wp2_with fail
      go_ret
      exact ⟨⟨_, rfl, HO3.out⟩, HB3.out⟩
end Go.Proofs.YtpoblealgooamaaGreatDoor
