/- The contract of the document's Alloc where there is room. Conditions: the memory lies as RM says. -/
import Derived.Test.YtjdhjehnofediaaRmA
namespace Go.Proofs.Ytjdhjehnofediaa
open Go Go.RowKit
def newL (s t : Nat) : List Nat := List.replicate t 1 ++ List.replicate (s - t) 0
theorem newL_len {s t : Nat} (h : t ≤ s) : (newL s t).length = s := by simp [newL]; omega
theorem newL_lo {s t q : Nat} (h : t ≤ s) (hq : q < t) : (newL s t).take q ++ [1] = (newL s t).take (q + 1) := by
  have hl := newL_len h
  rw [List.take_succ_eq_append_getElem (by omega)]
  congr 1
  simp [newL, hq]
theorem newL_hi {s t q : Nat} (h : t ≤ s) (hq : t ≤ q) (hs : q < s) : (newL s t).take q ++ [0] = (newL s t).take (q + 1) := by
  have hl := newL_len h
  rw [List.take_succ_eq_append_getElem (by omega)]
  congr 1
  simp [newL, List.getElem_append, Nat.not_lt.2 hq]
theorem blk_of' {g n cap H : Nat} {u : Value} (h : u.ownBlock = some g ∨ g = H) : (Value.slice (some ⟨g, 0, none⟩) n cap).ownBlock = u.ownBlock ∨ (Value.slice (some ⟨g, 0, none⟩) n cap).ownBlock = some H := by
  rcases h with e | e
  · left; rw [e]; rfl
  · right; rw [← e]; rfl
section
variable {w : World} {b W h : Nat} {v1 v2 : Value} {P1 P2 : List (RO × Value)}
set_option maxRecDepth 100000 in
set_option maxHeartbeats 8000000 in
theorem ralloc_ok (m : RM w b W h v1 P1 v2 P2) (z : RZ W h P1 P2) (k s t : Nat) (hr : rightB k s t = true) (hf : usedP P1 + s + 1 ≤ W) : Calls Try.prog 47 #[.pointer (some ⟨b, 0, none⟩), .int .i64 k, .int .i64 s, .int .i64 t] w fun e w' => e = .returned (.tuple #[.int .i64 (adr h W (usedP P1)), .int .i64 0]) ∧
    ∃ v' u, RM w' b W h v' (P1 ++ [(⟨adr h W (usedP P1), k, t, newL s t, 0⟩, u)]) v2 P2 ∧ (∀ i, OwnR b v' (P1 ++ [(⟨adr h W (usedP P1), k, t, newL s t, 0⟩, u)]) v2 P2 i → OwnR b v1 P1 v2 P2 i ∨ w.heap.size ≤ i) ∧ Fr (OwnR b v1 P1 v2 P2) w w' := by
  obtain ⟨i0, hi, hz0, hz1, hz2⟩ := info_parts infoU64
  obtain ⟨i5, hi5, hy0, hy1, hy2⟩ := info_parts infoObj
  obtain ⟨_, _, s0, s1, t0, t1⟩ := right_bd hr
  have hR := fun W => refright_any (k : Int) (s : Int) (t : Int) W
  rw [hr] at hR
  have HR := Lib.hid hR
  have HF := Lib.hid (rfree_any m z)
  have HNX := Lib.hid (fun n => rnext_any (m.drewN n) z)
  obtain ⟨A, hA⟩ : ∃ A, adr h W (usedP P1) = A := ⟨_, rfl⟩
  rw [hA] at HNX ⊢
  obtain ⟨uu, huu⟩ : ∃ uu, usedP P1 = uu := ⟨_, rfl⟩
  have hlu := length_le_usedP P1
  rw [huu] at HF hf hlu
  have hw1 := z.w1
  have HM := Lib.hid m
  have hbl := m.lt
  obtain ⟨a1, c1, hv1, hc1, hc2⟩ := own_shape5 m.l1.row
  obtain ⟨N, hN⟩ : ∃ N, P1.length = N := ⟨_, rfl⟩
  rw [hN] at hv1 hc1 hlu
  have HV1 := Lib.hid (And.intro hN hv1)
  obtain ⟨L, hL⟩ : ∃ L, newL s t = L := ⟨_, rfl⟩
  have hts : t ≤ s := by omega
  have hll : L.length = s := by rw [← hL]; exact newL_len hts
  have HLO := Lib.hid (show ∀ q, q < t → L.take q ++ [1] = L.take (q + 1) from fun q hq => by rw [← hL]; exact newL_lo hts hq)
  have HHI := Lib.hid (show ∀ q, t ≤ q → q < s → L.take q ++ [0] = L.take (q + 1) from fun q hq hs => by rw [← hL]; exact newL_hi hts hq hs)
  rw [hL]
  have HLL := Lib.hid hll
  clear hr hR m z hA huu hv1 hN hL hll
  go_enter Try.func47, Try.ntmps47
  go_wp2_with fail
  refine (HR.out _).mono ?_
  rintro e w' ⟨rfl, rfl⟩
  go_wp2_with fail
  refine HF.out.mono ?_
  rintro e w1 ⟨rfl, n1, rfl⟩
  go_wp2_with fail
  refine (HNX.out n1).mono ?_
  rintro e w2 ⟨rfl, n2, hw2⟩
  have hb02 : Below w.heap.size w w2 := by rw [hw2]; exact (((Fr.refl (fun _ => False) w).drewN n1).drewN n2).below (Nat.le_refl _) (fun _ h => h.elim)
  have hsz2 := hb02.size
  have HB02 := Lib.hid hb02
  clear hw2 hb02
  obtain ⟨ob, hob⟩ : ∃ ob, w2.heap.size = ob := ⟨_, rfl⟩
  go_wp2_with fail
  rw [hob] at hsz2
  have HX0 : Hid (AO w ob A k t 0 (L.take 0) (.slice none 0 0) (w2.alloc (.cells #[.int .i64 A, .int .i64 k, .int .i64 t, .slice none 0 0, .int .i64 0] 90))) :=
    ⟨by rw [← hob]; exact heap_alloc_new w2 _, World.ownsRow_nil _ _ _ _, HB02.out.alloc HB02.out.size _, hsz2⟩
  clear hob
  go_loopw [11] (fun i wr => ∃ (q : Nat) (u : Value), q ≤ s ∧ i = .int .i64 q ∧ AO w ob A k t 0 (L.take q) u wr) (fun i _ => s - (intOf i).toNat)
  case atStart => exact ⟨0, _, Nat.zero_le _, rfl, HX0.out⟩
  case round =>
    obtain ⟨q, u, hq, rfl, hX⟩ := hrel
    have hlq : (L.take q).length = q := by rw [List.length_take, HLL.out]; omega
    have hown := hX.own
    rw [hlq] at hown
    obtain ⟨a, c, rfl, hqc, hc63⟩ := own_shape5 (own_mono hown (Nat.zero_le _))
    have hsz := hX.base.size
    have d3 : wr.cell? ⟨ob, 3, none⟩ = some (.slice a q c) := blk_cell hX.blk 3
    have HX := Lib.hid hX
    have HO := Lib.hid hown
    clear hX hown hlq HX0
    by_cases hlt : q < s
    · by_cases hqt : q < t
      · have HT := Lib.hid (HLO.out q hqt)
        have hl2 : (L.take (q + 1)).length = q + 1 := by rw [List.length_take, HLL.out]; omega
        have HL2 := Lib.hid hl2
        clear hl2
        go_wp2_with (at_builtin; refine wpList_append_own_at _ rfl _ _ 32 rfl w.heap.size 56 i0 (.int .u64 0) 1 8 Try.underlying32 hi hz0 hz1 hz2 rfl (by decide) (.slice a q c) _ _ rfl (HO.out.alloc _) ⟨wr.heap.size, 0, none⟩ 1 1 [.int .u64 1] rfl rfl (cell_one_new _ _ _) (by simp [Value.oneCell']) (by unfold maxLen; omega) (by omega) (by simp; omega) ?_; intro v5 w5 hown5 hgrow5 _ hblk5; rw [show (Value.int .u64 1) = Value.int .u64 ((1 : Nat) : Int) from rfl, u64s_snoc, HT.out] at hown5; obtain ⟨g5, cap5, rfl⟩ := ownsRow_succ (k := q) hown5; obtain ⟨x5, y5, X5⟩ := HX.out.app HL2.out hown5 hgrow5; have HX5 := Lib.hid X5; clear X5 hown5 hgrow5 hblk5)
        go_roundw
        case rel => exact ⟨q + 1, _, hlt, by go_num, HX5.out⟩
        case measure => simp [intOf]; omega
      · have HT := Lib.hid (HHI.out q (by omega) hlt)
        have hl2 : (L.take (q + 1)).length = q + 1 := by rw [List.length_take, HLL.out]; omega
        have HL2 := Lib.hid hl2
        clear hl2
        go_wp2_with (at_builtin; refine wpList_append_own_at _ rfl _ _ 32 rfl w.heap.size 56 i0 (.int .u64 0) 1 8 Try.underlying32 hi hz0 hz1 hz2 rfl (by decide) (.slice a q c) _ _ rfl (HO.out.alloc _) ⟨wr.heap.size, 0, none⟩ 1 1 [.int .u64 0] rfl rfl (cell_one_new _ _ _) (by simp [Value.oneCell']) (by unfold maxLen; omega) (by omega) (by simp; omega) ?_; intro v5 w5 hown5 hgrow5 _ hblk5; rw [show (Value.int .u64 0) = Value.int .u64 ((0 : Nat) : Int) from rfl, u64s_snoc, HT.out] at hown5; obtain ⟨g5, cap5, rfl⟩ := ownsRow_succ (k := q) hown5; obtain ⟨x5, y5, X5⟩ := HX.out.app HL2.out hown5 hgrow5; have HX5 := Lib.hid X5; clear X5 hown5 hgrow5 hblk5)
        go_roundw
        case rel => exact ⟨q + 1, _, hlt, by go_num, HX5.out⟩
        case measure => simp [intOf]; omega
    · obtain rfl : q = s := by omega
      have hX := HX.out
      rw [List.take_of_length_le (by rw [HLL.out]; omega)] at hX
      have hm := HM.out.below hX.base
      have HMR := Lib.hid hm
      have HXE := Lib.hid hX
      have hb2 := hm.c2
      rw [HV1.out.2] at hb2
      have e0 : wr.cell? ⟨ob, 0, none⟩ = some (.int .i64 A) := blk_cell hX.blk 0
      have e1 : wr.cell? ⟨ob, 1, none⟩ = some (.int .i64 k) := blk_cell hX.blk 1
      have e2 : wr.cell? ⟨ob, 2, none⟩ = some (.int .i64 t) := blk_cell hX.blk 2
      have e4 : wr.cell? ⟨ob, 4, none⟩ = some (.int .i64 0) := blk_cell hX.blk 4
      have hro := hm.l1.row
      rw [HV1.out.1, HV1.out.2] at hro
      have HRO := Lib.hid hro
      have hobl : ob < wr.heap.size := (Array.getElem?_eq_some_iff.1 hX.blk).1
      clear hX hm hro
      go_wp2_with fail
      have hbwr : b < wr.heap.size := by omega
      have HU := Lib.hid (((Fr.refl (fun _ => False) wr).drewN 1).own (own_mono HXE.out.own (Nat.zero_le _)) (fun _ _ => id))
      go_region_law ((refine step_append_lies _ (by rfl) _ _ 28 (by rfl) 0 90 i5 (.agg #[.int .i64 0, .int .i64 0, .int .i64 0, .slice none 0 0, .int .i64 0]) 5 56 Try.underlying28 hi5 hy0 hy1 hy2 rfl (by decide) (.slice a1 N c1) _ _ (by rfl) ((HRO.out.drew).alloc _) ⟨wr.heap.size, 0, none⟩ 1 1 [.int .i64 A, .int .i64 k, .int .i64 t, .slice a q c, .int .i64 0] (by rfl) rfl (cells5_at _ _ _ _ _ _ _ _ (by simp)) (ro_one (o := ⟨A, k, t, L, 0⟩) (u := .slice a q c) rfl) (by omega) (by unfold maxLen; omega) (by omega) (Nat.zero_le _) (wr.heap.size + 1) (by simp) ?_; intro g6 cap6 w6 hown6 hgrow6 hblk6 hlt6; obtain ⟨x6, y6, z6, o6, f6⟩ := RM.push (HMR.out.drewN 1) (o := ⟨A, k, t, L, 0⟩) (u := .slice a q c) HU.out (fun i hi hn => by have := (HO.out.lt i hi).1; have := HM.out.own_lt i hn; omega) (by rw [HV1.out.1]; exact hown6) (by rw [HV1.out.2]; exact hgrow6) (by rw [HV1.out.2]; exact blk_of' hblk6); have HZ6 := Lib.hid z6; have HO6 := Lib.hid o6; have HF6 := Lib.hid f6; clear z6 o6 f6 hown6 hgrow6 hblk6))
      all_goals
        have e0' : (w6.setCell ⟨b, 2, none⟩ (.slice (some ⟨g6, 0, none⟩) (N + 1) cap6)).cell? ⟨ob, 0, none⟩ = some (.int .i64 A) := (HF6.out.cell (p := ⟨ob, 0, none⟩) hobl (fun hn => by have := HM.out.own_lt ob hn; omega)).trans e0
        clear e0 e1 e2 e4 hb2 d3
        go_wp2_with fail
        go_ret2
        refine ⟨rfl, _, _, HZ6.out, fun i hi => ?_, ((Fr.of_below (O := fun _ => False) HXE.out.base |>.mono (fun _ h => h.elim)).drewN 1).trans HF6.out (fun i hi => .inl hi)⟩
        rcases HO6.out i hi with r | r | r
        · exact .inl r
        · exact .inr (HO.out.lt i r).1
        · exact .inr (Nat.le_trans hsz r)
end
end Go.Proofs.Ytjdhjehnofediaa
