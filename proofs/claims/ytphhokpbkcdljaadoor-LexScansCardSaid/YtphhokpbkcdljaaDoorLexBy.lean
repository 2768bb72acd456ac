/- strings.Builder, a blank written: which blocks stay. Conditions: the builder lies as the library's word says; it stays in the reach. -/
import Derived.Test.YtphhokpbkcdljaaDoorIsaBld
namespace Go.Proofs.YtphhokpbkcdljaaDoor.Bl
open Go Go.RowKit Go.Proofs.YtphhokpbkcdljaaDoor
/-- a builder whose blocks lie below M -/
structure IsBM (M B b : Nat) (l : List UInt8) (w : World) : Prop where
  hB : B ≤ b
  hM : b < M
  le : M ≤ w.heap.size
  lies : ∃ p v, (p = .pointer none ∨ p = .pointer (some ⟨b, 0, none⟩)) ∧ w.heap[b]? = some (.cells #[p, v] 54 (0, 0)) ∧ w.ownsRow B 5 1 v (Lib.byteCells l).length (Lib.byteCells l) ∧ v.ownBlock ≠ some b ∧ ∀ g, v.ownBlock = some g → g < M
theorem IsBM.of {B b : Nat} {l : List UInt8} {w : World} (h : IsB B b l w) : IsBM w.heap.size B b l w := by
  rcases h with ⟨h1, v, h2, h3, h4⟩ | ⟨h1, v, h2, h3, h4⟩
  · exact ⟨h1, (Array.getElem?_eq_some_iff.1 h2).1, Nat.le_refl _, _, v, .inl rfl, h2, h3, h4, fun g hg => (h3.lt g hg).2⟩
  · exact ⟨h1, (Array.getElem?_eq_some_iff.1 h2).1, Nat.le_refl _, _, v, .inr rfl, h2, h3, h4, fun g hg => (h3.lt g hg).2⟩
theorem IsBM.isB {M B b : Nat} {l : List UInt8} {w : World} (h : IsBM M B b l w) : IsB B b l w := by
  obtain ⟨h1, _, _, p, v, hp, h2, h3, h4, _⟩ := h
  rcases hp with rfl | rfl
  · exact .inl ⟨h1, v, h2, h3, h4⟩
  · exact .inr ⟨h1, v, h2, h3, h4⟩
theorem IsBM.later {M B b : Nat} {l : List UInt8} {w w' : World} (h : IsBM M B b l w) (hb : Below w.heap.size w w') : IsBM M B b l w' := by
  obtain ⟨h1, hM, hl, p, v, hp, h2, h3, h4, h5⟩ := h
  exact ⟨h1, hM, Nat.le_trans hl hb.size, p, v, hp, (hb.block _ (by omega)).trans h2, own_later h3 hb, h4, h5⟩
set_option maxHeartbeats 2000000 in
set_option maxRecDepth 100000 in
theorem bblank_fine (M B b : Nat) (l : List UInt8) (w : World) (h : IsBM M B b l w) (hlen : l.length + 1 ≤ 140737488355328) (hBw : B ≤ w.heap.size) :
    Calls Tryd.prog 32 #[.pointer (some ⟨b, 0, none⟩), .int .u8 32] w fun e w' => e = .returned .nilIface ∧ IsB B b (l ++ [32]) w' ∧ Below B w w' ∧ ∀ j, M ≤ j → j < w.heap.size → w'.heap[j]? = w.heap[j]? := by
  obtain ⟨i0, hi, hz0, hz1, hz2⟩ := info_parts infoU8
  have HBL : Hid ((Lib.byteCells l).length = l.length) := Lib.hid (Lib.byteCells_length l)
  obtain ⟨hB, hM, hle, p, v, hp, hbk0, hown0, hne, hlow⟩ := h
  have hck : Calls Tryd.prog 58 #[.pointer (some ⟨b, 0, none⟩)] w fun e w' => e = .returned (.tuple #[]) ∧ (w'.heap[b]? = some (.cells #[.pointer (some ⟨b, 0, none⟩), v] 54 (0, 0)) ∧ w'.ownsRow B 5 1 v (Lib.byteCells l).length (Lib.byteCells l)) ∧ Below B w w' ∧ w'.heap.size = w.heap.size ∧ ∀ j, j ≠ b → w'.heap[j]? = w.heap[j]? := by
    rcases hp with rfl | rfl
    · have hA : Lib.BuilderAt 54 5 B b (.pointer none) (Lib.byteCells l) w := ⟨hB, v, hbk0, hown0, hne⟩
      refine (bcheck_fresh b w hA.cell0 hA.shape hA.frozen0).mono ?_
      rintro e w' ⟨rfl, rfl⟩
      refine ⟨rfl, ⟨?_, ownsRow_setCell_other hown0 (a := ⟨b, 0, none⟩) hne _⟩, (Below.refl B w).setCell (p := ⟨b, 0, none⟩) hB _, World.size_setCell _ _ _, fun j hj => ?_⟩
      · show (w.heap.modify b _)[b]? = _
        rw [Array.getElem?_modify, if_pos rfl, hbk0]; rfl
      · show (w.heap.modify b _)[j]? = _
        rw [Array.getElem?_modify, if_neg (fun q => hj q.symm)]
    · have hA : Lib.BuilderAt 54 5 B b (.pointer (some ⟨b, 0, none⟩)) (Lib.byteCells l) w := ⟨hB, v, hbk0, hown0, hne⟩
      refine (bcheck_used b w hA.cell0).mono ?_
      rintro e w' ⟨rfl, rfl⟩
      exact ⟨rfl, ⟨hbk0, hown0⟩, Below.refl B _, rfl, fun _ _ => rfl⟩
  have HCK := Lib.hid hck
  clear hck hp hbk0 hown0
  go_enter Tryd.func32, Tryd.ntmps32
  go_wp2_with (go_at_call 58; refine HCK.out.mono ?_)
  rintro e w1 ⟨rfl, ⟨hbk, hown⟩, hb1, hsz, hoth⟩
  have HO := Lib.hid (And.intro hsz hoth)
  clear hsz hoth
  have c0 : w1.cell? ⟨b, 0, none⟩ = some (.pointer (some ⟨b, 0, none⟩)) := by rw [Lib.cell_of_heap hbk]; rfl
  have c1 : w1.cell? ⟨b, 1, none⟩ = some v := by rw [Lib.cell_of_heap hbk]; rfl
  go_wp2_with (at_builtin; refine wpList_append_own _ rfl _ _ 30 rfl B 5 i0 (.int .u8 0) 1 1 Tryd.underlying30 hi hz0 hz1 hz2 rfl (by decide) _ _ _ rfl (hown.alloc _) ⟨w1.heap.size, 0, none⟩ 1 1 [.int .u8 32] rfl rfl ?c1 ?c2 ?c3 ?c4 ?c5 ?_)
  case c1 =>
    intro j u hj
    match j, hj with
    | 0, hj => simp at hj; subst hj; simp [Addr.add]
  case c2 => intro u hu; simp at hu; subst hu; rfl
  case c3 => rw [HBL.out]; unfold maxLen; omega
  case c4 => rw [HBL.out]; omega
  case c5 => have := hb1.size; simp; omega
  intro v' w2 hown' hgrow _
  have hlt : b < w1.heap.size := (Array.getElem?_eq_some_iff.1 hbk).1
  have hb2 : w2.heap[b]? = some (.cells #[.pointer (some ⟨b, 0, none⟩), v] 54 (0, 0)) := by
    rw [hgrow.block b (by simp; omega) (fun e => hne e.symm), Lib.alloc_old w1 _ b hlt]
    exact hbk
  have d0 : w2.cell? ⟨b, 0, none⟩ = some (.pointer (some ⟨b, 0, none⟩)) := by rw [Lib.cell_of_heap hb2]; rfl
  have d1 : w2.cell? ⟨b, 1, none⟩ = some v := by rw [Lib.cell_of_heap hb2]; rfl
  have f1 : w2.frozen? ⟨b, 1, none⟩ = false := Lib.frozen_of_heap hb2 1
  obtain ⟨ao, n', cap, rfl⟩ : ∃ ao n' cap, v' = .slice ao n' cap := by
    rcases hown'.2 with ⟨hv, _⟩ | ⟨g, cap, cur, hv, _⟩
    · exact ⟨_, _, _, hv⟩
    · exact ⟨_, _, _, hv⟩
  go_wp2
  go_ret
  have e : Lib.byteCells l ++ [.int .u8 32] = Lib.byteCells (l ++ [32]) := by simp [Lib.byteCells]
  refine ⟨rfl, ?_, ?_, fun j hj hjs => ?_⟩
  · have hp := Lib.BuilderAt.put (T := 54) (e := 5) hB hb2 (bs' := Lib.byteCells l ++ [.int .u8 32]) (by simpa using hown') (by decide)
    rw [e] at hp
    exact .inr hp
  · exact ((hb1.alloc (by have := hb1.size; omega) _).grown hgrow (by have := hb1.size; simp; omega) (fun k hk => (hown.lt k hk).1)).setCell (p := ⟨b, 1, none⟩) hB _
  · have hjb : j ≠ b := by omega
    have hsz := HO.out.1
    show (w2.heap.modify b _)[j]? = _
    rw [Array.getElem?_modify, if_neg (fun q => hjb q.symm), hgrow.block j (by simp; omega) (fun q => by have := hlow j q.symm; omega), Lib.alloc_old w1 _ j (by omega)]
    exact HO.out.2 j hjb
end Go.Proofs.YtphhokpbkcdljaaDoor.Bl
