/- The contract of the document's Makers. Conditions: none. -/
import Derived.Deep.RegionLaw
import Derived.Deep.AppendLies
import Derived.Test.YtlakfnlkiebpdaaDoorRtsMk
namespace Go.Proofs.YtlakfnlkiebpdaaDoor
open Go Go.RowKit
theorem blk_stay {w W : World} {B : Nat} {o : Obj} (h : w.heap[B]? = some o) (hb : Below w.heap.size w W) : W.heap[B]? = some o := (hb.block _ (Array.getElem?_eq_some_iff.1 h).1).trans h
theorem own_stayT {W W1 : World} {B n k : Nat} {e : TypeId} {v : Value} {xs : List Value} (h : W.ownsRow B e k v n xs) (hb : Below W.heap.size W W1) : W1.ownsRow B e k v n xs := by
  refine ⟨h.1, ?_⟩
  rcases h.2 with h | ⟨g, cap, cur, h1, h2, h3, h4⟩
  · exact .inl h
  · exact .inr ⟨g, cap, cur, h1, h2, blk_stay h3 hb, h4⟩
def namesA : Array Value := #[.string ⟨#[77, 97, 116, 99, 104]⟩, .string ⟨#[66, 105, 110, 100]⟩, .string ⟨#[68, 105, 118]⟩, .string ⟨#[67, 104, 114]⟩, .string ⟨#[83, 117, 98, 115, 99, 114, 105, 112, 116]⟩, .string ⟨#[69, 113, 117, 97, 108]⟩]
theorem namesA_at : ∀ k : Nat, k < 6 → namesA[k]? = some (.string (exnN k))
  | 0, _ => rfl
  | 1, _ => rfl
  | 2, _ => rfl
  | 3, _ => rfl
  | 4, _ => rfl
  | 5, _ => rfl
  | k + 6, h => absurd h (by omega)
theorem own_ne {W : World} {B n k g : Nat} {e t : TypeId} {v : Value} {xs : List Value} {cs : Array Value} (h : W.ownsRow B e k v n xs) (hg : W.heap[g]? = some (.cells cs t (0, 0))) (hne : e ≠ t) : some g ≠ v.ownBlock := by
  rcases h.2 with ⟨rfl, _⟩ | ⟨g', cap, cur, rfl, _, h2, _⟩
  · simp [Value.ownBlock]
  · simp only [Value.ownBlock]
    intro q
    injection q with q
    subst q
    rw [hg] at h2
    injection h2 with h2
    injection h2 with _ h3
    exact hne h3.symm
set_option maxRecDepth 100000 in
set_option maxHeartbeats 8000000 in
theorem refmakers_any (w : World) : Calls Tryd.prog 39 #[] w fun e w' => (∃ v U1 U2 U3, e = .returned v ∧ Mkd w' w.heap.size v U1 U2 U3 6) ∧ Below w.heap.size w w' := by
  have HBX := Lib.hid (And.intro (below_one w (.cells #[.int .i64 1, .int .i64 0, .string ⟨#[]⟩, .slice none 0 0] 61)) (heap_alloc_new w (.cells #[.int .i64 1, .int .i64 0, .string ⟨#[]⟩, .slice none 0 0] 61)))
  go_enter Tryd.func39, Tryd.ntmps39
  go_wp2_with fail
  refine (con_any ⟨#[98, 111, 111, 108]⟩ 8 (.slice none 0 0) ⟨_, _, _, rfl⟩ _).mono ?_
  rintro e w1 ⟨rfl, hb1⟩
  have hv := blk_stay HBX.out.2 hb1
  have hbb := HBX.out.1.trans (hb1.mono HBX.out.1.size)
  have hs1 : w.heap.size < w1.heap.size := (Array.getElem?_eq_some_iff.1 hv).1
  clear HBX hb1
  obtain ⟨Y1, hY1⟩ : ∃ Y1, (w1.alloc (.cells #[.int .i64 2, .int .i64 8, .string ⟨#[98, 111, 111, 108]⟩, .slice none 0 0] 61)).alloc (.cells #[.int .i64 1, .int .i64 0, .string ⟨#[]⟩, .slice none 0 0] 61) = Y1 := ⟨_, rfl⟩
  have k1 := below_one w1 (.cells #[.int .i64 2, .int .i64 8, .string ⟨#[98, 111, 111, 108]⟩, .slice none 0 0] 61)
  have k2 := below_one (w1.alloc (.cells #[.int .i64 2, .int .i64 8, .string ⟨#[98, 111, 111, 108]⟩, .slice none 0 0] 61)) (.cells #[.int .i64 1, .int .i64 0, .string ⟨#[]⟩, .slice none 0 0] 61)
  have hva := blk_stay hv k1
  have htr := blk_stay (heap_alloc_new w1 (.cells #[.int .i64 2, .int .i64 8, .string ⟨#[98, 111, 111, 108]⟩, .slice none 0 0] 61)) k2
  have hvy := blk_stay hva k2
  have hl := Lv.one (w := w1.alloc (.cells #[.int .i64 2, .int .i64 8, .string ⟨#[98, 111, 111, 108]⟩, .slice none 0 0] 61)) (b := w.heap.size) (t := elemT) (Lv.nil _ _) (by rw [World.size_alloc]; omega)
  have hb1 := (hbb.trans (k1.mono hbb.size)).trans (k2.mono (by rw [World.size_alloc]; omega))
  change Lv ((w1.alloc _).alloc (.cells #[.int .i64 1, .int .i64 0, .string ⟨#[]⟩, .slice none 0 0] 61)) w.heap.size listT.l _ at hl
  rw [hY1] at htr hvy hl hb1
  have HY := Lib.hid (And.intro hY1 (And.intro hvy (And.intro htr (And.intro hl hb1))))
  have d0 := blk_cellT hva 0
  have d1 := blk_cellT hva 1
  have d2 := blk_cellT hva 2
  have d3 := blk_cellT hva 3
  clear hv hbb k1 k2 hva htr hvy hl hb1 hY1
  go_wp2_with fail
  rw [HY.out.1]
  clear d0 d1 d2 d3
  refine (con_any ⟨#[108, 105, 115, 116]⟩ 9 _ ⟨_, _, _, rfl⟩ _).mono ?_
  rintro e w2 ⟨rfl, hb2⟩
  obtain ⟨-, hv1, htr1, hl1, hbb1⟩ := HY.out
  rw [World.size_alloc] at hl1
  generalize (⟨w1.heap.size + 1, 0, none⟩ : Addr) = p1 at hl1 ⊢
  generalize w1.heap.size = B1 at htr1 ⊢
  have hv2 := blk_stay hv1 hb2
  have htr2 := blk_stay htr1 hb2
  have hl2 := hl1.stay hb2
  have hbb2 := hbb1.trans (hb2.mono hbb1.size)
  clear hv1 htr1 hl1 hbb1 HY hb2
  have hs2 : w.heap.size < w2.heap.size := (Array.getElem?_eq_some_iff.1 hv2).1
  obtain ⟨Y2, hY2⟩ : ∃ Y2, (w2.alloc (.cells #[.int .i64 2, .int .i64 9, .string ⟨#[108, 105, 115, 116]⟩, .slice (some p1) 1 1] 61)).alloc (.cells #[.int .i64 1, .int .i64 0, .string ⟨#[]⟩, .slice none 0 0, .int .i64 2, .int .i64 9, .string ⟨#[108, 105, 115, 116]⟩, .slice (some p1) 1 1] 61) = Y2 := ⟨_, rfl⟩
  have k1 := below_one w2 (.cells #[.int .i64 2, .int .i64 9, .string ⟨#[108, 105, 115, 116]⟩, .slice (some p1) 1 1] 61)
  have k2 := below_one (w2.alloc (.cells #[.int .i64 2, .int .i64 9, .string ⟨#[108, 105, 115, 116]⟩, .slice (some p1) 1 1] 61)) (.cells #[.int .i64 1, .int .i64 0, .string ⟨#[]⟩, .slice none 0 0, .int .i64 2, .int .i64 9, .string ⟨#[108, 105, 115, 116]⟩, .slice (some p1) 1 1] 61)
  have hva := blk_stay hv2 k1
  have hla := hl2.stay k1
  have hli := blk_stay (heap_alloc_new w2 (.cells #[.int .i64 2, .int .i64 9, .string ⟨#[108, 105, 115, 116]⟩, .slice (some p1) 1 1] 61)) k2
  have hvy := blk_stay hva k2
  have htr3 := blk_stay (blk_stay htr2 k1) k2
  have hl := Lv.two (w := w2.alloc (.cells #[.int .i64 2, .int .i64 9, .string ⟨#[108, 105, 115, 116]⟩, .slice (some p1) 1 1] 61)) (b := w.heap.size) (t := elemT) (t' := listT) (Lv.nil _ _) hla (by rw [World.size_alloc]; omega)
  have hly := hla.stay k2
  have hb1 := (hbb2.trans (k1.mono hbb2.size)).trans (k2.mono (by rw [World.size_alloc]; omega))
  change Lv ((w2.alloc _).alloc (.cells #[.int .i64 1, .int .i64 0, .string ⟨#[]⟩, .slice none 0 0, .int .i64 2, .int .i64 9, .string ⟨#[108, 105, 115, 116]⟩, .slice (some p1) 1 1] 61)) w.heap.size cellT.l _ at hl
  rw [hY2] at hli hvy hl hb1 htr3 hly
  have HY := Lib.hid (And.intro hY2 (And.intro hvy (And.intro htr3 (And.intro hli (And.intro hly (And.intro hl hb1))))))
  have d0 := blk_cellT hva 0
  have d1 := blk_cellT hva 1
  have d2 := blk_cellT hva 2
  have d3 := blk_cellT hva 3
  clear hv2 htr2 hl2 hbb2 k1 k2 hva hla hli hvy htr3 hl hly hb1 hY2
  go_wp2_with fail
  rw [HY.out.1]
  clear d0 d1 d2 d3
  refine (con_any ⟨#[42]⟩ 6 _ ⟨_, _, _, rfl⟩ _).mono ?_
  rintro e w3 ⟨rfl, hb3⟩
  obtain ⟨-, hv1, htr1, hli1, hly1, hl1, hbb1⟩ := HY.out
  rw [World.size_alloc] at hl1
  generalize (⟨w2.heap.size + 1, 0, none⟩ : Addr) = p2 at hl1 ⊢
  generalize w2.heap.size = B2 at hli1 ⊢
  have htr3 := blk_stay htr1 hb3
  have hli3 := blk_stay hli1 hb3
  have hly3 := hly1.stay hb3
  have hl3 := hl1.stay hb3
  have hbb3 := hbb1.trans (hb3.mono hbb1.size)
  clear hv1 htr1 hli1 hly1 hl1 hbb1 HY hb3
  obtain ⟨Y3, hY3⟩ : ∃ Y3, w3.alloc (.cells #[.int .i64 2, .int .i64 6, .string ⟨#[42]⟩, .slice (some p2) 2 2] 61) = Y3 := ⟨_, rfl⟩
  have k1 := below_one w3 (.cells #[.int .i64 2, .int .i64 6, .string ⟨#[42]⟩, .slice (some p2) 2 2] 61)
  have htr := blk_stay htr3 k1
  have hli := blk_stay hli3 k1
  have hbo := heap_alloc_new w3 (.cells #[.int .i64 2, .int .i64 6, .string ⟨#[42]⟩, .slice (some p2) 2 2] 61)
  have hly := hly3.stay k1
  have hl := hl3.stay k1
  have hb := hbb3.trans (k1.mono hbb3.size)
  rw [hY3] at hb hbo hli htr hly hl
  have HY := Lib.hid (And.intro hY3 (And.intro hly (And.intro hl hb)))
  rw [← hY3] at htr hli hbo
  have c0 := blk_cellT htr 0
  have c1 := blk_cellT htr 1
  have c2 := blk_cellT htr 2
  have c3 := blk_cellT htr 3
  have d0 := blk_cellT hli 0
  have d1 := blk_cellT hli 1
  have d2 := blk_cellT hli 2
  have d3 := blk_cellT hli 3
  clear htr3 hli3 hly3 hl3 hbb3 k1 htr hli hbo hly hl hb hY3
  go_wp2_with fail
  clear c0 c1 c2 c3 d0 d1 d2 d3
  rw [HY.out.1]
  have k1 := below_one Y3 (.cells (four (.slice (some p1) 1 1) (.slice (some p2) 2 2) (.slice (some p1) 1 1)).toArray 73)
  have k2 := below_one (Y3.alloc (.cells (four (.slice (some p1) 1 1) (.slice (some p2) 2 2) (.slice (some p1) 1 1)).toArray 73)) (.cells namesA 9)
  have hown := own_stayT (own_fourT Y3 (.slice (some p1) 1 1) (.slice (some p2) 2 2) (.slice (some p1) 1 1)) k2
  have hnm := heap_alloc_new (Y3.alloc (.cells (four (.slice (some p1) 1 1) (.slice (some p2) 2 2) (.slice (some p1) 1 1)).toArray 73)) (.cells namesA 9)
  have hbz := k1.trans (k2.mono (by rw [World.size_alloc]; omega))
  obtain ⟨Z, hZ⟩ : ∃ Z, (Y3.alloc (.cells (four (.slice (some p1) 1 1) (.slice (some p2) 2 2) (.slice (some p1) 1 1)).toArray 73)).alloc (.cells namesA 9) = Z := ⟨_, rfl⟩
  change Code.wp _ (Code.loop _) _ _ ((Y3.alloc (.cells (four (.slice (some p1) 1 1) (.slice (some p2) 2 2) (.slice (some p1) 1 1)).toArray 73)).alloc (.cells namesA 9))
  have hsz : w3.heap.size + 1 = Y3.heap.size := by rw [← HY.out.1, World.size_alloc]
  rw [hZ] at hown hnm hbz ⊢
  rw [World.size_alloc] at hnm
  rw [hsz]
  have HZ := Lib.hid (And.intro hown (And.intro hbz hnm))
  clear k1 k2 hown hnm hbz hZ hsz
  obtain ⟨i0, hi, hz0, hz1, hz2⟩ := info_parts infoMk
  obtain ⟨-, hl1, hl2, hbw⟩ := HY.out
  have HF := Lib.hid (And.intro hl1 (And.intro hl2 hbw))
  clear hl1 hl2 hbw HY hs1 hs2
  generalize Y3.heap.size + 1 = Nb at HZ ⊢
  go_loopw [5, 7] (fun v i wr => ∃ k : Nat, k ≤ 6 ∧ i = .int .i64 k ∧ wr.ownsRow Y3.heap.size 73 12 v (4 + k) (mkUp (.slice (some p1) 1 1) (.slice (some p2) 2 2) (.slice (some p1) 1 1) k) ∧ Below Y3.heap.size Y3 wr ∧ wr.heap[Nb]? = some (.cells namesA 9 (0, 0))) (fun _ i _ => 6 - (intOf i).toNat)
  case atStart => exact ⟨0, Nat.zero_le _, rfl, HZ.out.1, HZ.out.2.1, HZ.out.2.2⟩
  case round =>
    obtain ⟨k, hk, rfl, hown, hb, hnm⟩ := hrel
    obtain ⟨va, vc, rfl⟩ := own_shapeT hown
    have HR := Lib.hid (And.intro hown (And.intro hb hnm))
    clear hown hb hnm
    by_cases hlt : k < 6
    · have d0 : wr.cell? ⟨Nb, k, none⟩ = some (.string (exnN k)) := (blk_cellT HR.out.2.2 k).trans (namesA_at k hlt)
      generalize hN : exnN k = N at d0
      have HN := Lib.hid hN
      clear hN
      have HD := Lib.hid (fun (Y : World) (hY : Below wr.heap.size wr Y) => below_cell hY d0)
      have HCON := Lib.hid (fun (Y : World) (hY : Below wr.heap.size wr Y) => (con_any ⟨#[101, 120, 110]⟩ 4 (.slice none 0 0) ⟨_, _, _, rfl⟩ Y).mono fun e w' ⟨h1, h2⟩ => (⟨h1, hY.trans (h2.mono hY.size)⟩ : e = Ending.returned (.agg #[.int .i64 2, .int .i64 4, .string ⟨#[101, 120, 110]⟩, .slice none 0 0]) ∧ Below wr.heap.size wr w'))
      have HOW := Lib.hid (fun (Y : World) (hY : Below wr.heap.size wr Y) => own_stayT HR.out.1 hY)
      go_wp2_with fail
      go_region_law ((first
        | (refine step_append_lies _ (by rfl) _ _ 62 (by rfl) Y3.heap.size 73 i0 (.agg #[.string ⟨#[]⟩, .int .i64 0, .bool false, .int .i64 0, .int .i64 0, .int .i64 0, .string ⟨#[]⟩, .slice none 0 0, .int .i64 0, .int .i64 0, .string ⟨#[]⟩, .slice none 0 0]) 12 152 Tryd.underlying62 hi hz0 hz1 hz2 rfl (by decide) (.slice va (4 + k) vc) _ _ (by rfl) ((HOW.out _ hw).alloc _) ⟨w'.heap.size, 0, none⟩ 1 1 [.string N, .int .i64 k, .bool false, .int .i64 0, .int .i64 0, .int .i64 0, .string ⟨#[]⟩, .slice none 0 0, .int .i64 2, .int .i64 4, .string ⟨#[101, 120, 110]⟩, .slice none 0 0] (by rfl) rfl (cells_atT w' #[.string N, .int .i64 k, .bool false, .int .i64 0, .int .i64 0, .int .i64 0, .string ⟨#[]⟩, .slice none 0 0, .int .i64 2, .int .i64 4, .string ⟨#[101, 120, 110]⟩, .slice none 0 0] _ _ rfl) (by simp [Value.oneCell']) (by omega) (by unfold maxLen; omega) (by omega) (by have h1 := HR.out.2.1.size; have h2 := hw.size; simp; omega) (w'.heap.size + 1) (by simp) ?_; intro g6 cap6 w6 hown6 hgrow6 hblk6 hlt6)
        | (go_simp; go_at_call 40; refine (HCON.out _ (by first | exact Below.drew (Below.refl _ _) | exact Below.refl _ _)).mono ?_; rintro e w' ⟨rfl, hw⟩; have hdd := HD.out _ hw)))
      all_goals
        have hbw := HR.out.2.1.trans (hw.mono HR.out.2.1.size)
        have hnw := blk_stay HR.out.2.2 hw
        have hne := own_ne (HOW.out _ hw) hnw (by decide)
        have hn6 := (hgrow6.block Nb (by rw [World.size_alloc]; have := (Array.getElem?_eq_some_iff.1 hnw).1; omega) hne).trans (blk_stay hnw (below_one _ _))
        have hb6 := (hbw.alloc hbw.size _).grown hgrow6 (by rw [World.size_alloc]; have := hbw.size; omega) (fun j hj => ((HOW.out _ hw).lt j hj).1)
        have hown7 : w6.ownsRow Y3.heap.size 73 12 (.slice (some ⟨g6, 0, none⟩) (4 + (k + 1)) cap6) (4 + (k + 1)) (mkUp (.slice (some p1) 1 1) (.slice (some p2) 2 2) (.slice (some p1) 1 1) (k + 1)) := by
          have h := hown6
          rw [← HN.out] at h
          exact h
        have HE := Lib.hid (And.intro hown7 (And.intro hb6 hn6))
        clear hbw hnw hne hn6 hb6 hown7 hown6 hgrow6 hblk6 hlt6 hdd hw d0
        go_wp2_with fail
        exact ⟨⟨k + 1, hlt, by go_num, HE.out.1, HE.out.2.1, HE.out.2.2⟩, by simp [intOf]; omega⟩
    · obtain rfl : k = 6 := by omega
      go_wp2_with fail
      go_ret
      obtain ⟨q1, q2, q3⟩ := HF.out
      exact ⟨⟨_, _, _, _, rfl, own_monoT HR.out.1 q3.size, q1.stay HR.out.2.1, q2.stay HR.out.2.1, q1.stay HR.out.2.1⟩, q3.trans (HR.out.2.1.mono q3.size)⟩
end Go.Proofs.YtlakfnlkiebpdaaDoor
