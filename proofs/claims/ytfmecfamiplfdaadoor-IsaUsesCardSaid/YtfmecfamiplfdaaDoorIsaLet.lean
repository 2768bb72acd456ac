/- The reference's letters, Reads, Writes; SameInts. Conditions: none. -/
import Derived.RangeFuncBox
import Derived.RegionTactic
import Derived.BigRegion
import Derived.Laws.OwnMore
import Derived.OwnWalk
import Derived.Deep.RegionHeld3
import Derived.Deep.QuietTactic
import Derived.BigQuiet
import Derived.Laws.AppendOwn
import Derived.Maps.AppendAt
import Derived.Test.YtfmecfamiplfdaaDoorIsaWr
import Derived.Test.YtfmecfamiplfdaaDoorIsaEncodesW
namespace Go.Proofs.YtfmecfamiplfdaaDoor
open Go Go.RowKit
theorem infoInt : (Tryd.prog.info? 3).map (fun i => (i.zero, i.size, i.bytes)) = some (some (.int .i64 0), 1, 8) := by kernel_rfl
theorem app_below {w wr w1 : World} {B : Nat} {v : Value} {N : Nat} {e : TypeId} {xs : List Value} {tmp : Obj} (hw : w.heap.size ≤ B) (hB : Below w.heap.size w wr) (hrow : wr.ownsRow B e 1 v N xs) (hgrow : (wr.alloc tmp).grownBy w1 v.ownBlock) : Below w.heap.size w w1 := by
  refine (hB.alloc hB.size tmp).grown hgrow (by have := hB.size; simp; omega) fun j ej => ?_
  rcases hrow.2 with ⟨rfl, _⟩ | ⟨g, cap, cur, rfl, hb, _, _⟩
  · simp [Value.ownBlock] at ej
  · obtain rfl : g = j := by simpa [Value.ownBlock] using ej
    exact Nat.le_trans hw hb
theorem app_cell {wr w1 : World} {B : Nat} {v : Value} {N : Nat} {e : TypeId} {xs : List Value} {tmp : Obj} {p : Addr} {u : Value} (hp : p.block < B) (hrow : wr.ownsRow B e 1 v N xs) (hgrow : (wr.alloc tmp).grownBy w1 v.ownBlock) (h : wr.cell? p = some u) : w1.cell? p = some u := by
  have lt := World.block_lt_of_cell? wr _ h
  have e1 : (wr.alloc tmp).cell? p = some u := (((Below.refl wr.heap.size wr).alloc (Nat.le_refl _) tmp).cell lt).trans h
  refine (World.cell?_of_block (hgrow.block p.block (by simp; omega) ?_)).trans e1
  rcases hrow.2 with ⟨rfl, _⟩ | ⟨g, cap, cur, rfl, hb, _, _⟩
  · simp [Value.ownBlock]
  · simp [Value.ownBlock]; omega
theorem newrow_own {w W : World} {B n : Nat} {v : Value} {zs : List Int} (hn : zs.length = n) (hw : w.heap.size ≤ B) (h : W.ownsRow B 3 1 v n (zs.map (Value.int .i64))) (hnil : n = 0 → v = .slice none 0 0) : NewRow w W v zs := by
  rcases h.2 with ⟨rfl, h0⟩ | ⟨g, cap, cur, rfl, hb, hg, h1, h2, h3, h4⟩
  · refine .inl ⟨?_, rfl⟩
    exact List.eq_nil_of_length_eq_zero (by omega)
  · subst hn
    refine .inr ⟨g, cap, rfl, h1, by simpa [maxLen] using h2, by omega, (Array.getElem?_eq_some_iff.1 hg).1, fun j z hz => ?_⟩
    have hj : j < zs.length := (List.getElem?_eq_some_iff.1 hz).1
    constructor
    · rw [h.cellAt j (by omega), List.getElem?_map, hz]; rfl
    · exact h.frozenAt j
theorem own_below {W W' : World} {n₀ : Nat} {e : TypeId} {v : Value} {n : Nat} {xs : List Value} (h : W.ownsRow n₀ e 1 v n xs) (hb : Below W.heap.size W W') : W'.ownsRow n₀ e 1 v n xs := by
  have hg : W.grownBy W' none := ⟨hb.os, hb.tape, hb.output, hb.size, fun i hi _ => hb.block i hi⟩
  refine h.kept hg ?_
  rcases h.2 with ⟨rfl, _⟩ | ⟨g, cap, cur, rfl, _⟩
  · exact .inl rfl
  · exact .inr (by simp [Value.ownBlock])
/-- what is known of the loop over letters -/
structure LetRel (w : World) (o a b c n : Int) (W : World) : Prop where
  base : Below w.heap.size w W
  c0 : W.cell? ⟨w.heap.size, 0, none⟩ = some (.int .i64 o)
  c1 : W.cell? ⟨w.heap.size, 1, none⟩ = some (.int .i64 a)
  c2 : W.cell? ⟨w.heap.size, 2, none⟩ = some (.int .i64 b)
  c3 : W.cell? ⟨w.heap.size, 3, none⟩ = some (.int .i64 c)
  c4 : W.cell? ⟨w.heap.size, 4, none⟩ = some (.int .i64 n)
theorem LetRel.below {w W W' : World} {o a b c n : Int} (h : LetRel w o a b c n W) (hb : Below W.heap.size W W') : LetRel w o a b c n W' :=
  have st : ∀ (p : Addr) (u : Value), W.cell? p = some u → W'.cell? p = some u := fun p _ hv => (hb.cell (p := p) (World.block_lt_of_cell? W _ hv)).trans hv
  ⟨h.base.trans (hb.mono h.base.size), st _ _ h.c0, st _ _ h.c1, st _ _ h.c2, st _ _ h.c3, st _ _ h.c4⟩
theorem let_s {w W : World} {o a b c n : Int} (h : LetRel w o a b c n W) : W.cell? ⟨w.heap.size, 0, none⟩ = some (.int .i64 o) ∧ W.cell? ⟨w.heap.size, 1, none⟩ = some (.int .i64 a) ∧ W.cell? ⟨w.heap.size, 2, none⟩ = some (.int .i64 b) ∧ W.cell? ⟨w.heap.size, 3, none⟩ = some (.int .i64 c) ∧ W.cell? ⟨w.heap.size, 4, none⟩ = some (.int .i64 n) := ⟨h.c0, h.c1, h.c2, h.c3, h.c4⟩
theorem LetRel.app {w wr w1 : World} {o a b c n : Int} {v : Value} {N : Nat} {e : TypeId} {xs : List Value} {tmp : Obj} (h : LetRel w o a b c n wr) (hrow : wr.ownsRow (w.heap.size + 1) e 1 v N xs) (hgrow : (wr.alloc tmp).grownBy w1 v.ownBlock) : LetRel w o a b c n w1 :=
  ⟨app_below (Nat.le_succ _) h.base hrow hgrow, app_cell (by simp) hrow hgrow h.c0, app_cell (by simp) hrow hgrow h.c1, app_cell (by simp) hrow hgrow h.c2, app_cell (by simp) hrow hgrow h.c3, app_cell (by simp) hrow hgrow h.c4⟩
/-- the numbers of letters -/
def letL (a b c n : Int) (l : List UInt8) : List Int := l.map fun k => letterOf a b c n (k.toNat : Int)
theorem letL_snoc {a b c n : Int} {s : ByteArray} {k : Nat} (h : k < s.size) : (letL a b c n (s.data.toList.take k)).map (Value.int .i64) ++ [Value.int .i64 (letterOf a b c n ((s[k]).toNat : Int))] = (letL a b c n (s.data.toList.take (k + 1))).map (Value.int .i64) := by
  rw [List.take_succ_eq_append_getElem (show k < s.data.toList.length by rw [Array.length_toList]; exact h)]
  simp [letL]
  rfl
theorem letL_len {a b c n : Int} {s : ByteArray} {k : Nat} (h : k ≤ s.size) : (letL a b c n (s.data.toList.take k)).length = k := by
  rw [letL, List.length_map, List.length_take, Array.length_toList]
  exact Nat.min_eq_left h
set_option maxRecDepth 100000 in
set_option maxHeartbeats 4000000 in
theorem letters_any (o a b c n : Int) (s : ByteArray) (hs : s.size ≤ 100) (w : World) :
    Calls Tryd.prog 29 #[.agg #[.int .i64 o, .int .i64 a, .int .i64 b, .int .i64 c, .int .i64 n], .string s] w fun e w' => (∃ v, e = .returned v ∧ NewRow w w' v (letL a b c n s.data.toList)) ∧ Below w.heap.size w w' := by
  obtain ⟨i0, hi, hz0, hz1, hz2⟩ := info_parts infoInt
  have HL0 := Lib.hid (show LetRel w o a b c n (w.alloc (.cells #[.int .i64 o, .int .i64 a, .int .i64 b, .int .i64 c, .int .i64 n] 30)) from ⟨(Below.refl _ w).alloc (Nat.le_refl _) _, by simp, by simp, by simp, by simp, by simp⟩)
  go_enter Tryd.func29, Tryd.ntmps29
  go_wp2_with fail
  go_loopw [5, 6] (fun v i wr => ∃ k : Nat, k ≤ s.size ∧ i = .int .i64 k ∧ wr.ownsRow (w.heap.size + 1) 3 1 v k ((letL a b c n (s.data.toList.take k)).map (Value.int .i64)) ∧ LetRel w o a b c n wr ∧ (k = 0 → v = .slice none 0 0)) (fun _ i _ => s.size - (intOf i).toNat)
  case atStart => exact ⟨0, Nat.zero_le _, rfl, World.ownsRow_nil _ _ _ _, HL0.out, fun _ => rfl⟩
  case round =>
    obtain ⟨k, hk, rfl, hown, hL, hnil⟩ := hrel
    by_cases hlt : k < s.size
    · have HOWN := Lib.hid hown
      have HLR := Lib.hid hL
      have HS := Lib.hid (letL_snoc (a := a) (b := b) (c := c) (n := n) hlt)
      have hbs := hL.base.size
      have hkz : (0 : Int) ≤ k := by omega
      have hks : (k : Int) < s.size := by omega
      clear hown hL hnil
      go_wp2_with fail
      have hq := HLR.out.below (Below.refl _ _).drew
      go_region_held3 (fun W => W.cell? ⟨w.heap.size, 0, none⟩ = some (.int .i64 o) ∧ W.cell? ⟨w.heap.size, 1, none⟩ = some (.int .i64 a) ∧ W.cell? ⟨w.heap.size, 2, none⟩ = some (.int .i64 b) ∧ W.cell? ⟨w.heap.size, 3, none⟩ = some (.int .i64 c) ∧ W.cell? ⟨w.heap.size, 4, none⟩ = some (.int .i64 n))
        (first | assumption | exact let_s (by assumption))
        (first | (go_at_call 27; refine (letter_any _ _ _ _ _ _ _).mono ?_; rintro e w1 ⟨rfl, hb⟩; have hl1 := LetRel.below hq hb))
      have HL1 := Lib.hid hl1
      have HO1 := Lib.hid (own_below (W := wr.drew) HOWN.out hb)
      have hsz : w.heap.size + 1 ≤ w1.heap.size := by have := World.block_lt_of_cell? w1 _ hl1.c0; simp at this; omega
      clear hl1 hb hq
      go_wp2_with (at_builtin; refine wpList_append_own _ rfl _ _ 43 rfl (w.heap.size + 1) 3 i0 (.int .i64 0) 1 8 Tryd.underlying43 hi hz0 hz1 hz2 rfl (by decide) _ _ _ rfl (HO1.out.alloc _) ⟨w1.heap.size, 0, none⟩ 1 1 [.int .i64 (letterOf a b c n ((s[k]).toNat : Int))] rfl rfl (cell_one_new _ _ _) (by simp [Value.oneCell']) (by unfold maxLen; omega) (by omega) (by simp; omega) ?_; intro v' w2 hown' hgrow _; rw [HS.out] at hown'; have HOW := Lib.hid hown'; have HL2 := Lib.hid (HL1.out.app HO1.out hgrow); obtain ⟨g', cap', rfl⟩ := ownsRow_succ hown'; clear hown' hgrow)
      go_roundw
      case rel => exact ⟨k + 1, hlt, by go_num, HOW.out, HL2.out, fun h => absurd h (by omega)⟩
      case measure => simp [intOf]; omega
    · obtain rfl : k = s.size := by omega
      have e : s.data.toList.take s.size = s.data.toList := List.take_of_length_le (show s.data.toList.length ≤ s.size by rw [Array.length_toList]; exact Nat.le_refl _)
      have hlen := letL_len (a := a) (b := b) (c := c) (n := n) (s := s) (Nat.le_refl s.size)
      rw [e] at hown hlen
      have HN := Lib.hid (newrow_own hlen (Nat.le_succ _) hown hnil)
      have HB := Lib.hid hL.base
      clear hown hL hnil e hlen
      go_wp2_with fail
      go_ret
      exact ⟨⟨_, rfl, HN.out⟩, HB.out⟩
end Go.Proofs.YtfmecfamiplfdaaDoor
