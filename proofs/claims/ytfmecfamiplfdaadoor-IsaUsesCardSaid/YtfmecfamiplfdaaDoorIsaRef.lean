/- The reference's Reads and Writes of any instruction; SameInts of like rows. Conditions: none. -/
import Derived.Test.YtfmecfamiplfdaaDoorIsaLet
import Derived.Test.YtfmecfamiplfdaaDoorIsaBackW
namespace Go.Proofs.YtfmecfamiplfdaaDoor
open Go Go.RowKit
/-- a row of integers as a slice value -/
def RowV (W : World) (v : Value) (zs : List Int) : Prop := (zs = [] ∧ v = .slice none 0 0) ∨ ∃ g cap, v = .slice (some ⟨g, 0, none⟩) zs.length cap ∧ zs.length ≤ cap ∧ cap ≤ 9223372036854775807 ∧ RowAt W g zs
theorem RowV.below {W W' : World} {v : Value} {zs : List Int} (h : RowV W v zs) (hb : Below W.heap.size W W') : RowV W' v zs := by
  rcases h with h | ⟨g, cap, hv, h1, h2, hr⟩
  · exact .inl h
  · exact .inr ⟨g, cap, hv, h1, h2, hr.below hb⟩
theorem NewRow.row {w W : World} {v : Value} {zs : List Int} (h : NewRow w W v zs) : RowV W v zs := by
  rcases h with h | ⟨g, cap, hv, h1, h2, _, _, hr⟩
  · exact .inl h
  · exact .inr ⟨g, cap, hv, h1, h2, hr⟩
set_option maxHeartbeats 1000000 in
theorem same_nil (w : World) : Calls Tryd.prog 22 #[.slice none 0 0, .slice none 0 0] w fun e w' => e = .returned (.bool true) ∧ Below w.heap.size w w' := by
  go_enter Tryd.func22, Tryd.ntmps22
  go_wp2_with fail
  refine wp_loop_rounds 1 ?_
  rw [rounds_succ]
  go_wp2_with fail
  go_ret
  exact ⟨rfl, Below.refl _ _⟩
set_option maxHeartbeats 1000000 in
theorem same_nils (g p : Nat) (w : World) : Calls Tryd.prog 22 #[.slice none 0 0, .slice (some ⟨g, 0, none⟩) 0 p] w fun e w' => e = .returned (.bool true) ∧ Below w.heap.size w w' := by
  go_enter Tryd.func22, Tryd.ntmps22
  go_wp2_with fail
  refine wp_loop_rounds 1 ?_
  rw [rounds_succ]
  go_wp2_with fail
  go_ret
  exact ⟨rfl, Below.refl _ _⟩
set_option maxHeartbeats 1000000 in
theorem same_snil (g p : Nat) (w : World) : Calls Tryd.prog 22 #[.slice (some ⟨g, 0, none⟩) 0 p, .slice none 0 0] w fun e w' => e = .returned (.bool true) ∧ Below w.heap.size w w' := by
  go_enter Tryd.func22, Tryd.ntmps22
  go_wp2_with fail
  refine wp_loop_rounds 1 ?_
  rw [rounds_succ]
  go_wp2_with fail
  go_ret
  exact ⟨rfl, Below.refl _ _⟩
theorem below_drewN {B : Nat} {a w : World} (h : Below B a w) (n : Nat) : Below B a (w.drewN n) := ⟨h.os, h.tape, h.output, h.size, h.block⟩
set_option maxRecDepth 100000 in
set_option maxHeartbeats 2000000 in
theorem same_some (g1 g2 cap1 cap2 : Nat) (zs : List Int) (hc1 : zs.length ≤ cap1) (hm1 : cap1 ≤ 9223372036854775807) (w : World) (h1 : RowAt w g1 zs) (h2 : RowAt w g2 zs) :
    Calls Tryd.prog 22 #[.slice (some ⟨g1, 0, none⟩) zs.length cap1, .slice (some ⟨g2, 0, none⟩) zs.length cap2] w fun e w' => e = .returned (.bool true) ∧ Below w.heap.size w w' := by
  have H1 := Lib.hid h1
  have H2 := Lib.hid h2
  clear h1 h2
  go_enter Tryd.func22, Tryd.ntmps22
  go_wp2_with fail
  go_loopw [5] (fun i wr => ∃ k : Nat, k ≤ zs.length ∧ i = .int .i64 k ∧ Below w.heap.size w wr) (fun i _ => zs.length - (intOf i).toNat)
  case atStart => exact ⟨0, Nat.zero_le _, rfl, Below.refl _ _⟩
  case round =>
    obtain ⟨k, hk, rfl, hB⟩ := hrel
    by_cases hlt : k < zs.length
    · have hz1 : zs[k]? = some zs[k] := List.getElem?_eq_getElem hlt
      have c1 := (((H1.out.below hB) k _ hz1).1)
      have c2 := (((H2.out.below hB) k _ hz1).1)
      obtain ⟨z, hzz⟩ : ∃ z, zs[k] = z := ⟨_, rfl⟩
      rw [hzz] at c1 c2
      have hkz : (0 : Int) ≤ k := by omega
      have hks : (k : Int) < zs.length := by omega
      have HB := Lib.hid hB
      clear hz1 hzz hB
      go_wp2_with fail
      go_quiet (fail)
      go_wp2_with fail
      go_roundw
      case rel => exact ⟨k + 1, hlt, by go_num, below_drewN HB.out _⟩
      case measure => simp [intOf]; omega
    · obtain rfl : k = zs.length := by omega
      have HB := Lib.hid hB
      clear hB
      go_wp2_with fail
      go_ret
      exact ⟨rfl, HB.out⟩
theorem same_ints {v1 v2 : Value} {zs : List Int} (w : World) (h1 : RowV w v1 zs) (h2 : RowV w v2 zs) :
    Calls Tryd.prog 22 #[v1, v2] w fun e w' => e = .returned (.bool true) ∧ Below w.heap.size w w' := by
  rcases h1 with ⟨rfl, rfl⟩ | ⟨g1, p1, rfl, a1, b1, r1⟩
  · rcases h2 with ⟨_, rfl⟩ | ⟨g2, p2, rfl, _, _, _⟩
    · exact same_nil w
    · exact same_nils g2 p2 w
  · rcases h2 with ⟨rfl, rfl⟩ | ⟨g2, p2, rfl, _, _, r2⟩
    · exact same_snil g1 p1 w
    · exact same_some g1 g2 p1 p2 zs a1 b1 w r1 r2
theorem NewRow.later {w w' W : World} {v : Value} {zs : List Int} (h : NewRow w W v zs) (hle : w'.heap.size ≤ w.heap.size) : NewRow w' W v zs := by
  rcases h with h | ⟨g, cap, hv, h1, h2, h3, h4, hr⟩
  · exact .inl h
  · exact .inr ⟨g, cap, hv, h1, h2, Nat.le_trans hle h3, h4, hr⟩
set_option maxRecDepth 100000 in
set_option maxHeartbeats 2000000 in
theorem refreads_ok (op : Nat) (h0 : 1 ≤ op) (h1 : op ≤ 36) (a b c n : Int) (hc : chkOf op a b c n = 0) (hs : (bs (rowOf op).2.2.1).size ≤ 100) : ReadsP 21 op a b c n (letL a b c n (rowOf op).2.2.1) := fun w _ => by
  have HC := Lib.hid hc
  have HI := Lib.hid (InsAt.new w op a b c n)
  obtain ⟨r0, hr0⟩ : ∃ r, bs (rowOf op).1 = r := ⟨_, rfl⟩
  obtain ⟨r1, hr1⟩ : ∃ r, bs (rowOf op).2.1 = r := ⟨_, rfl⟩
  obtain ⟨r2, hr2⟩ : ∃ r, bs (rowOf op).2.2.1 = r := ⟨_, rfl⟩
  obtain ⟨r3, hr3⟩ : ∃ r, bs (rowOf op).2.2.2 = r := ⟨_, rfl⟩
  have hF := fun W => find_yes op h0 h1 W
  have hL := fun W => letters_any op a b c n (bs (rowOf op).2.2.1) hs W
  simp only [rowV, strV, hr0, hr1, hr2, hr3] at hF hL
  have e : (letL a b c n (rowOf op).2.2.1) = letL a b c n (r2).data.toList := by rw [← hr2]; rfl
  rw [e]
  have HF := Lib.hid hF
  have HL := Lib.hid hL
  clear hc hF hL hr0 hr1 hr2 hr3 e hs
  go_enter Tryd.func21, Tryd.ntmps21
  go_wp2_with fail
  refine (refcheck_any op a b c n _).mono ?_
  rintro e w1 ⟨rfl, hb⟩
  rw [HC.out]
  have HI1 := Lib.hid (HI.out.below hb)
  have HB1 := Lib.hid (((Below.refl w.heap.size w).alloc (Nat.le_refl _) (.cells #[.int .i64 op, .int .i64 a, .int .i64 b, .int .i64 c, .int .i64 n] 30)).trans (hb.mono (by simp)))
  obtain ⟨i0, i1, i2, i3, i4⟩ := HI1.out
  clear hb
  go_wp2_with fail
  refine (HF.out _).mono ?_
  rintro e w2 ⟨rfl, hb⟩
  have HI2 := Lib.hid (HI1.out.below hb)
  have HB2 := Lib.hid (HB1.out.trans (hb.mono HB1.out.size))
  clear hb i0 i1 i2 i3 i4
  obtain ⟨i0, i1, i2, i3, i4⟩ := HI2.out
  have hz := HI2.out.lt
  go_wp2_with fail
  refine (HL.out _).mono ?_
  rintro e w3 ⟨⟨v, rfl, hv⟩, hb⟩
  have HV := Lib.hid hv
  have HB3 := Lib.hid ((HB2.out.alloc HB2.out.size (.cells #[.string r0, .string r1, .string r2, .string r3] 23)).trans (hb.mono (by have := HB2.out.size; simp; omega)))
  clear hb hv
  go_wp2_with fail
  go_ret
  exact ⟨⟨v, rfl, HV.out.later (by have := HB2.out.size; simp; omega)⟩, HB3.out⟩
set_option maxRecDepth 100000 in
set_option maxHeartbeats 1000000 in
theorem refreads_bad (o a b c n : Int) (hc : chkOf o a b c n ≠ 0) : ReadsP 21 o a b c n [] := fun w _ => by
  obtain ⟨E, hE⟩ : ∃ E, chkOf o a b c n = E := ⟨_, rfl⟩
  have HE := Lib.hid hE
  rw [hE] at hc
  have hcb : (E != 0) = true := by simpa using hc
  clear hE hc
  go_enter Tryd.func21, Tryd.ntmps21
  go_wp2_with fail
  refine (refcheck_any o a b c n _).mono ?_
  rintro e w1 ⟨rfl, hb⟩
  rw [HE.out]
  have HB := Lib.hid (((Below.refl w.heap.size w).alloc (Nat.le_refl _) (.cells #[.int .i64 o, .int .i64 a, .int .i64 b, .int .i64 c, .int .i64 n] 30)).trans (hb.mono (by simp)))
  clear hb
  go_wp2_with fail
  go_ret
  exact ⟨⟨_, rfl, .inl ⟨rfl, rfl⟩⟩, HB.out⟩
set_option maxRecDepth 100000 in
set_option maxHeartbeats 2000000 in
theorem refwrites_ok (op : Nat) (h0 : 1 ≤ op) (h1 : op ≤ 36) (a b c n : Int) (hc : chkOf op a b c n = 0) (hs : (bs (rowOf op).2.2.2).size ≤ 100) : ReadsP 23 op a b c n (letL a b c n (rowOf op).2.2.2) := fun w _ => by
  have HC := Lib.hid hc
  have HI := Lib.hid (InsAt.new w op a b c n)
  obtain ⟨r0, hr0⟩ : ∃ r, bs (rowOf op).1 = r := ⟨_, rfl⟩
  obtain ⟨r1, hr1⟩ : ∃ r, bs (rowOf op).2.1 = r := ⟨_, rfl⟩
  obtain ⟨r2, hr2⟩ : ∃ r, bs (rowOf op).2.2.1 = r := ⟨_, rfl⟩
  obtain ⟨r3, hr3⟩ : ∃ r, bs (rowOf op).2.2.2 = r := ⟨_, rfl⟩
  have hF := fun W => find_yes op h0 h1 W
  have hL := fun W => letters_any op a b c n (bs (rowOf op).2.2.2) hs W
  simp only [rowV, strV, hr0, hr1, hr2, hr3] at hF hL
  have e : (letL a b c n (rowOf op).2.2.2) = letL a b c n (r3).data.toList := by rw [← hr3]; rfl
  rw [e]
  have HF := Lib.hid hF
  have HL := Lib.hid hL
  clear hc hF hL hr0 hr1 hr2 hr3 e hs
  go_enter Tryd.func23, Tryd.ntmps23
  go_wp2_with fail
  refine (refcheck_any op a b c n _).mono ?_
  rintro e w1 ⟨rfl, hb⟩
  rw [HC.out]
  have HI1 := Lib.hid (HI.out.below hb)
  have HB1 := Lib.hid (((Below.refl w.heap.size w).alloc (Nat.le_refl _) (.cells #[.int .i64 op, .int .i64 a, .int .i64 b, .int .i64 c, .int .i64 n] 30)).trans (hb.mono (by simp)))
  obtain ⟨i0, i1, i2, i3, i4⟩ := HI1.out
  clear hb
  go_wp2_with fail
  refine (HF.out _).mono ?_
  rintro e w2 ⟨rfl, hb⟩
  have HI2 := Lib.hid (HI1.out.below hb)
  have HB2 := Lib.hid (HB1.out.trans (hb.mono HB1.out.size))
  clear hb i0 i1 i2 i3 i4
  obtain ⟨i0, i1, i2, i3, i4⟩ := HI2.out
  have hz := HI2.out.lt
  go_wp2_with fail
  refine (HL.out _).mono ?_
  rintro e w3 ⟨⟨v, rfl, hv⟩, hb⟩
  have HV := Lib.hid hv
  have HB3 := Lib.hid ((HB2.out.alloc HB2.out.size (.cells #[.string r0, .string r1, .string r2, .string r3] 23)).trans (hb.mono (by have := HB2.out.size; simp; omega)))
  clear hb hv
  go_wp2_with fail
  go_ret
  exact ⟨⟨v, rfl, HV.out.later (by have := HB2.out.size; simp; omega)⟩, HB3.out⟩
set_option maxRecDepth 100000 in
set_option maxHeartbeats 1000000 in
theorem refwrites_bad (o a b c n : Int) (hc : chkOf o a b c n ≠ 0) : ReadsP 23 o a b c n [] := fun w _ => by
  obtain ⟨E, hE⟩ : ∃ E, chkOf o a b c n = E := ⟨_, rfl⟩
  have HE := Lib.hid hE
  rw [hE] at hc
  have hcb : (E != 0) = true := by simpa using hc
  clear hE hc
  go_enter Tryd.func23, Tryd.ntmps23
  go_wp2_with fail
  refine (refcheck_any o a b c n _).mono ?_
  rintro e w1 ⟨rfl, hb⟩
  rw [HE.out]
  have HB := Lib.hid (((Below.refl w.heap.size w).alloc (Nat.le_refl _) (.cells #[.int .i64 o, .int .i64 a, .int .i64 b, .int .i64 c, .int .i64 n] 30)).trans (hb.mono (by simp)))
  clear hb
  go_wp2_with fail
  go_ret
  exact ⟨⟨_, rfl, .inl ⟨rfl, rfl⟩⟩, HB.out⟩
end Go.Proofs.YtfmecfamiplfdaaDoor
