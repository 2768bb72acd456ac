/- The contract of mark: one bit more. Conditions: the memory lies as MemV says. -/
import Derived.Test.YtlakfnlkiebpdaaDoorMemN
import Derived.Deep.AppendLies
import Derived.Deep.LoopGhost
namespace Go.Proofs.YtlakfnlkiebpdaaDoor
open Go Go.RowKit
theorem infoU64 : (Tryd.prog.info? 33).map (fun i => (i.zero, i.size, i.bytes)) = some (some (.int .u64 0), 1, 8) := by kernel_rfl
section
variable {w w1 : World} {b W h : Nat} {R : Nat → Value} {L : Nat → List Nat}
/-- a row that has turned, or lies anew, is stored -/
theorem MemV.put_row (m : MemV w b W h R L) {r : Nat} (hr : r < 4) {v : Value} {l : List Nat} (hf : Fr (fun i => (R r).ownBlock = some i) w w1) (hv : w1.ownsRow 0 33 1 v l.length (u64s l)) (hs : ∀ g, v.ownBlock = some g → (R r).ownBlock = some g ∨ w.heap.size ≤ g) :
    MemV (w1.setCell ⟨b, 2 + r, none⟩ v) b W h (upd R r v) (upd L r l) ∧ (∀ i, Own b (upd R r v) i → Own b R i ∨ w.heap.size ≤ i) ∧ Fr (Own b R) w (w1.setCell ⟨b, 2 + r, none⟩ v) := by
  have hb : ¬ (R r).ownBlock = some b := m.far r hr
  have hg : ∀ g, v.ownBlock = some g → g ≠ b ∧ ∀ s, s < 4 → s ≠ r → (R s).ownBlock ≠ some g := fun g hg => by
    rcases hs g hg with e | e
    · exact ⟨fun q => hb (q ▸ e), fun s hs4 hne hsg => m.sep r s hr hs4 (fun q => hne q.symm) g e hsg⟩
    · exact ⟨fun q => by have := m.lt; omega, fun s hs4 _ hsg => by have := ((m.own s hs4).lt g hsg).2; omega⟩
  have hc1 : ∀ (o : Nat) (u : Value), w.cell? ⟨b, o, none⟩ = some u → w1.cell? ⟨b, o, none⟩ = some u := fun o u hu => hf.cell_some hu hb
  have hc : ∀ (o : Nat) (u : Value), o ≠ 2 + r → w.cell? ⟨b, o, none⟩ = some u → (w1.setCell ⟨b, 2 + r, none⟩ v).cell? ⟨b, o, none⟩ = some u := fun o u ho hu => (World.cell?_setCell_other _ _ _ _ (by intro q; injection q with _ q2; exact ho q2.symm)).trans (hc1 o u hu)
  have hfb : Fr (· = b) w1 (w1.setCell ⟨b, 2 + r, none⟩ v) := (Fr.refl (· = b) w1).setCell (p := ⟨b, 2 + r, none⟩) (.inl rfl) _
  refine ⟨⟨hc 0 _ (by omega) m.c0, hc 1 _ (by omega) m.c1, fun s hs4 => ?_, fun j => (World.frozen?_setCell _ _ _ _).trans ((hf.frozen m.lt hb).trans (m.fz j)), fun s hs4 => ?_, fun s t hs4 ht4 hne g => ?_, fun s hs4 => ?_⟩, fun i hi => ?_, ?_⟩
  · by_cases e : s = r
    · subst e; rw [upd_same]; exact World.cell?_setCell_same _ _ _ (hc1 _ _ (m.cr s hs4))
    · rw [upd_other _ _ e]; exact hc _ _ (by omega) (m.cr s hs4)
  · by_cases e : s = r
    · subst e; rw [upd_same, upd_same]; exact hfb.own hv (fun g hg' q => (hg g hg').1 q)
    · rw [upd_other _ _ e, upd_other _ _ e]
      exact hfb.own (hf.own (m.own s hs4) (fun g hg' q => m.sep r s hr hs4 (fun x => e x.symm) g q hg')) (fun g hg' q => m.far s hs4 (q ▸ hg'))
  · by_cases e : s = r
    · subst e
      rw [upd_same, upd_other _ _ (fun q => hne q.symm)]
      exact fun hg' => (hg g hg').2 t ht4 (fun q => hne q.symm)
    · rw [upd_other _ _ e]
      by_cases e2 : t = r
      · subst e2
        rw [upd_same]
        exact fun hg' hg2 => (hg g hg2).2 s hs4 e hg'
      · rw [upd_other _ _ e2]
        exact m.sep s t hs4 ht4 hne g
  · by_cases e : s = r
    · subst e; rw [upd_same]; exact fun hg' => (hg b hg').1 rfl
    · rw [upd_other _ _ e]; exact m.far s hs4
  · rcases hi with rfl | ⟨s, hs4, hg'⟩
    · exact .inl (.inl rfl)
    · by_cases e : s = r
      · subst e
        rw [upd_same] at hg'
        rcases hs i hg' with a | a
        · exact .inl (.inr ⟨s, hs4, a⟩)
        · exact .inr a
      · rw [upd_other _ _ e] at hg'
        exact .inl (.inr ⟨s, hs4, hg'⟩)
  · exact (hf.mono (fun i hi => .inl (.inr ⟨r, hr, hi⟩))).setCell (.inl (.inl rfl)) _
/-- what an append to a row leaves turned -/
theorem app_fr {r : Nat} {tmp : Obj} (hg : (w.alloc tmp).grownBy w1 (R r).ownBlock) : Fr (fun i => (R r).ownBlock = some i) w w1 :=
  ((Fr.refl _ w).alloc tmp).grown hg (fun _ hk => .inl hk)
def padded (M : List Nat) (k : Nat) : List Nat := M ++ List.replicate k 0
theorem padded_length (M : List Nat) (k : Nat) : (padded M k).length = M.length + k := by simp [padded]
theorem padded_succ (M : List Nat) (k : Nat) : u64s (padded M k) ++ [Value.int .u64 0] = u64s (padded M (k + 1)) := by
  unfold padded
  rw [List.replicate_succ', ← List.append_assoc, u64s_append (M ++ List.replicate k 0)]
  rfl
theorem ms_of {w0 : World} {O : Nat → Prop} {R' : Nat → Value} {L' : Nat → List Nat} {h' : Nat} (h1 : ∀ i, Own b R i → O i ∨ w0.heap.size ≤ i) (h2 : Fr O w0 w) (m : MemV w1 b W h' R' L') (h3 : ∀ i, Own b R' i → Own b R i ∨ w.heap.size ≤ i) (h4 : Fr (Own b R) w w1) : MS w0 O w1 b W h' L' := by
  refine ⟨R', m, fun i hi => ?_, h2.trans h4 h1⟩
  rcases h3 i hi with a | a
  · exact h1 i a
  · exact .inr (Nat.le_trans h2.size a)
theorem or_bit (x j : Nat) (hx : x < 18446744073709551616) (hj : j < 64) : bits BinOp.or IntKind.u64 (x : Int) (IntKind.u64.wrap (2 ^ j)) = ((x ||| 2 ^ j : Nat) : Int) := by
  have h2 : 2 ^ j < 2 ^ 64 := Nat.pow_lt_pow_right (by decide) hj
  have e : IntKind.u64.wrap (2 ^ j) = ((2 ^ j : Nat) : Int) := by
    rw [IntKind.wrap_u64]
    push_cast
    have h3 : ((2 : Int) ^ j) < 18446744073709551616 := by
      have := Int.ofNat_lt.2 h2
      rw [Int.natCast_pow] at this
      exact this
    have h4 : (0 : Int) < 2 ^ j := Int.pow_pos (by decide)
    omega
  rw [e, u64_or_nat x _ hx h2]
theorem padded_lt {M : List Nat} (hM : ∀ y ∈ M, y < 18446744073709551616) (k i : Nat) : (padded M k).getD i 0 < 18446744073709551616 := by
  rw [List.getD_eq_getElem?_getD]
  cases e : (padded M k)[i]? with
  | none => simp
  | some y =>
    rcases List.mem_append.1 (List.mem_of_getElem? e) with h | h
    · exact hM y h
    · have := List.eq_of_mem_replicate h
      simp [this]
set_option maxRecDepth 100000 in
set_option maxHeartbeats 4000000 in
theorem mark_any (m : MemV w b W h R L) (z : Sizes W h L) :
    Calls Tryd.prog 81 #[.pointer (some ⟨b, 2 + h * 2, none⟩)] w fun e w' => e = .returned (.tuple #[]) ∧ MS w (Own b R) w' b W h (upd L (h * 2 + 1) (markAt (L (h * 2 + 1)) (L (h * 2)).length)) := by
  obtain ⟨i0, hi, hz0, hz1, hz2⟩ := info_parts infoU64
  have hh := z.hh
  have cr := m.cr (h * 2) (by omega)
  obtain ⟨a, cap, hv, hle, hcap⟩ := m.shape (r := h * 2) (by omega)
  rw [hv] at cr
  have hl := z.len (h * 2) (by omega)
  have hl2 := z.len (h * 2 + 1) (by omega)
  obtain ⟨c, hc⟩ : ∃ c, (L (h * 2)).length = c := ⟨_, rfl⟩
  obtain ⟨M, hM⟩ : ∃ M, L (h * 2 + 1) = M := ⟨_, rfl⟩
  rw [hc] at cr hle hl ⊢
  rw [hM] at hl2 ⊢
  have HR0 := Lib.hid (show MS w (Own b R) w b W h (upd L (h * 2 + 1) (padded M 0)) from by
    refine ⟨R, MemV.congr m fun r _ => ?_, fun _ h => .inl h, Fr.refl _ _⟩
    by_cases e : r = h * 2 + 1
    · subst e; rw [upd_same, hM]; simp [padded]
    · rw [upd_other _ _ e])
  have HW := Lib.hid (show ∀ y ∈ M, y < 18446744073709551616 from by rw [← hM]; exact z.word _ (by omega))
  clear m z hv hM hc
  go_enter Tryd.func81, Tryd.ntmps81
  go_wp2
  go_loopg [24] (c / 64 + 1 - M.length) (fun g _ wr => ∃ k, k ≤ c / 64 + 1 - M.length ∧ g = c / 64 + 1 - M.length - k ∧ MS w (Own b R) wr b W h (upd L (h * 2 + 1) (padded M k)))
  case atStart => exact ⟨0, Nat.zero_le _, by omega, HR0.out⟩
  case round =>
    obtain ⟨k, hk, hg, R1, m1, ho1, hf1⟩ := hrel
    have HG := Lib.hid hg
    have HO1 := Lib.hid ho1
    have HF1 := Lib.hid hf1
    have hrow : wr.cell? ⟨b, 2 + h * 2 + 1, none⟩ = some (R1 (h * 2 + 1)) := m1.cr (h * 2 + 1) (by omega)
    obtain ⟨a1, cap1, hv1, hle1, hcap1⟩ := m1.shape (r := h * 2 + 1) (by omega)
    rw [upd_same, padded_length] at hv1 hle1
    rw [hv1] at hrow
    have hown : wr.ownsRow 0 33 1 (.slice a1 (M.length + k) cap1) (M.length + k) (u64s (padded M k)) := by
      have := m1.own (h * 2 + 1) (by omega)
      rw [upd_same, padded_length, hv1] at this
      exact this
    have hfz := m1.fz (2 + h * 2 + 1)
    have HV1 := Lib.hid hv1
    have HM1 := Lib.hid m1
    clear hg ho1 hf1 hv1 m1
    by_cases hlt : M.length + k ≤ c / 64
    · go_wp2_with (at_builtin; refine wpList_append_own_at _ rfl _ _ 43 rfl 0 33 i0 (.int .u64 0) 1 8 Tryd.underlying43 hi hz0 hz1 hz2 rfl (by decide) (.slice a1 (M.length + k) cap1) _ _ rfl (hown.alloc _) ⟨wr.heap.size, 0, none⟩ 1 1 [.int .u64 0] rfl rfl (cell_one_new _ _ _) (by simp [Value.oneCell']) (by unfold maxLen; omega) (by omega) (Nat.zero_le _) ?_; intro v' w1 hown' hgrow _ hblk; rw [padded_succ] at hown'; obtain ⟨g2, cap2, rfl⟩ := ownsRow_succ (k := M.length + k) hown'; have hfr := app_fr (R := R1) (r := h * 2 + 1) (by rw [HV1.out]; exact hgrow); have hc1 := hfr.cell_some hrow (HM1.out.far _ (by omega)); have hf1 := (hfr.frozen (p := ⟨b, 2 + h * 2 + 1, none⟩) HM1.out.lt (HM1.out.far _ (by omega))).trans hfz; have HFR := Lib.hid hfr; have HOWN' := Lib.hid hown'; have HBLK := Lib.hid hblk; clear hfr hown' hblk hgrow hown)
      go_roundg (c / 64 + 1 - M.length - (k + 1))
      case measure => have := HG.out; omega
      case rel =>
        refine ⟨k + 1, by omega, rfl, ?_⟩
        have hp := HM1.out.put_row (r := h * 2 + 1) (by omega) (l := padded M (k + 1)) HFR.out (by rw [padded_length, ← Nat.add_assoc]; exact HOWN'.out) (fun g hg => by
          rcases HBLK.out with e | e
          · left; rw [HV1.out, ← e]; exact hg
          · right; rw [e] at hg; injection hg with hg; simp at hg; omega)
        refine ms_of HO1.out HF1.out (MemV.congr hp.1 fun r _ => ?_) hp.2.1 hp.2.2
        by_cases e : r = h * 2 + 1
        · subst e; rw [upd_same, upd_same]
        · rw [upd_other _ _ e, upd_other _ _ e, upd_other _ _ e]
    · have hn : M.length + k = max M.length (c / 64 + 1) := by omega
      have hlen : (padded M k).length = M.length + k := padded_length M k
      have hin : c / 64 < M.length + k := by omega
      obtain ⟨g1, cap2, hv2, _, _⟩ := HM1.out.some_row (r := h * 2 + 1) (j := c / 64) (by omega) (by rw [upd_same, hlen]; exact hin)
      have hcell := HM1.out.row_cell (r := h * 2 + 1) (j := c / 64) (by omega) (by rw [upd_same, hlen]; exact hin) hv2
      rw [upd_same, hlen] at hv2
      rw [upd_same] at hcell
      rw [HV1.out] at hv2
      injection hv2 with hx1 _ hx2
      subst hx1 hx2
      obtain ⟨x, hx⟩ : ∃ x, (padded M k).getD (c / 64) 0 = x := ⟨_, rfl⟩
      rw [hx] at hcell
      obtain ⟨hc1, hc2⟩ := hcell
      have hi0 : (0 : Int) ≤ (c : Int) / 64 := by omega
      have hi1 : (c : Int) / 64 < (M.length : Int) + k := by omega
      have HX := Lib.hid hx
      clear hn hlen hown hx hi hz0 hz1 hz2
      go_wp2_with fail
      go_region
      go_end0
      have hk2 : k = c / 64 + 1 - M.length := by omega
      have hxl : x < 18446744073709551616 := by rw [← HX.out]; exact padded_lt HW.out _ _
      have hbit := or_bit x (c % 64) hxl (Nat.mod_lt _ (by decide))
      rw [hbit]
      have m2 := HM1.out.set_cell (r := h * 2 + 1) (j := c / 64) (z := x ||| 2 ^ (c % 64)) (by omega) HV1.out
      refine ⟨rfl, ms_of HO1.out HF1.out ((MemV.congr m2 fun r _ => ?_).drewN 1) (fun _ h => .inl h) (((Fr.refl _ _).setCell (.inl (.inr ⟨h * 2 + 1, by omega, by rw [HV1.out]; rfl⟩)) _).drewN 1)⟩
      by_cases e : r = h * 2 + 1
      · subst e
        rw [upd_same, upd_same, upd_same, ← HX.out, hk2]
        rfl
      · rw [upd_other _ _ e, upd_other _ _ e, upd_other _ _ e]
end
end Go.Proofs.YtlakfnlkiebpdaaDoor
