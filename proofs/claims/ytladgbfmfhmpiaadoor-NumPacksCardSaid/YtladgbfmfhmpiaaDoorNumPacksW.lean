/- The walk of the statement NumPacks: it returns true. Conditions: the library's table of powers of ten reads as it is laid; the text and the list are no longer than the reach. -/
import Derived.Test.YtladgbfmfhmpiaaDoorNumPacksA
import Derived.Test.YtladgbfmfhmpiaaDoorNumPackBackW
import Derived.Deep.RegionHeld3
namespace Go.Proofs.YtladgbfmfhmpiaaDoor
open Go Go.RowKit Go.Shelf
attribute [local go_sem] Oper.semAt_some
theorem boxed_below {W W' : World} {B : Nat} {t : TypeId} {v : Value} (h : Boxed W B t v) (hb : Below W.heap.size W W') : Boxed W' B t v := (hb.block B h.lt).trans h
theorem words_at {w W : World} {v : Value} {zs : List Nat} (h : Words w.heap.size w v zs) (hb : Below w.heap.size w W) : Words W.heap.size W v zs := (h.below hb).mono hb.size
theorem words_to {w W : World} {v : Value} {zs : List Nat} (h : Words w.heap.size w v zs) (hb : Below w.heap.size w W) : Words W.heap.size W v zs := words_at h hb
theorem tab_at {w W : World} (h : Tab w) (hb : Below w.heap.size w W) : Tab W := tab_below h (Nat.le_refl _) hb
theorem bl_al {w W : World} (h : Below w.heap.size w W) (o : Obj) : Below w.heap.size w (W.alloc o) := h.alloc h.size o
theorem bl_self (W : World) (o : Obj) : Below W.heap.size W (W.alloc o) := (Below.refl _ _).alloc (Nat.le_refl _) _
theorem ownFrom_block {β : Type} {B D : Nat} {o : Obj} (h : D < B) : OwnFrom B (fun (_ : β) W => W.heap[D]? = some o) := fun _ _ _ _ hs hg hr =>
  (hg.block D (Array.getElem?_eq_some_iff.1 hs).1 (fun e => by have := (hr D e.symm).1; omega)).trans hs
theorem ownFrom_with {β : Type} {B : Nat} {p : Prop} {I : β → World → Prop} (h : OwnFrom B I) : OwnFrom B (fun s W => p ∧ I s W) := fun s W W' row hs hg hr => ⟨hs.1, h s W W' row hs.2 hg hr⟩
/-- what the last statement's calls find -/
structure Rest (w : World) (R I X D D2 n₀ : Nat) (vI vX vL : Value) (zs zw : List Nat) (W : World) : Prop where
  base : Below w.heap.size w W
  box : ∃ b, Boxed W R 4 (.bool b)
  boxI : Boxed W I 3 vI
  boxX : Boxed W X 42 vX
  want : Words W.heap.size W vX zw
  lent : LentIs n₀ zs W vL
  d1 : W.heap[D]? = some (.deferred (some []))
  d2 : W.heap[D2]? = some (.deferred (some []))
theorem words_set {W : World} {R : Nat} {b b' : Bool} {v : Value} {zs : List Nat} (h : Words W.heap.size W v zs) (hb : Boxed W R 4 (.bool b)) : Words (W.setCell ⟨R, 0, none⟩ (.bool b')).heap.size (W.setCell ⟨R, 0, none⟩ (.bool b')) v zs := by
  rcases h with ⟨rfl, rfl⟩ | ⟨g, off, cap, rfl, hlt, hl, hc⟩
  · exact .inl ⟨rfl, rfl⟩
  · refine .inr ⟨g, off, cap, rfl, by simpa [World.setCell] using hlt, hl, fun j hj => ?_⟩
    rw [← hc j hj]
    by_cases e : g = R
    · exfalso
      subst e
      have h2 := hc j hj
      simp only [World.cell?, show W.heap[g]? = _ from hb] at h2
      cases hk : off + j with
      | zero => rw [hk] at h2; simp at h2
      | succ k => rw [hk] at h2; simp at h2
    · exact World.cell?_of_block (Below.heap_setCell _ _ _ _ (by simpa using e))
theorem lent_set {W : World} {R n₀ : Nat} {b b' : Bool} {v : Value} {zs : List Nat} (h : LentIs n₀ zs W v) (hb : Boxed W R 4 (.bool b)) : LentIs n₀ zs (W.setCell ⟨R, 0, none⟩ (.bool b')) v := by
  obtain ⟨g, cap, rfl, hown⟩ := h
  refine ⟨g, cap, rfl, hown.kept (grownBy_setCell' W R _) (.inr fun e => ?_)⟩
  exact Boxed.not_row hb (by decide) hown e.symm
theorem Rest.drew {w : World} {R I X D D2 n₀ : Nat} {vI vX vL : Value} {zs zw : List Nat} {W : World} (h : Rest w R I X D D2 n₀ vI vX vL zs zw W) : Rest w R I X D D2 n₀ vI vX vL zs zw W.drew :=
  ⟨h.base.drew, h.box, h.boxI, h.boxX, words_at h.want (Below.refl _ _).drew, lent_below h.lent (Below.refl _ _).drew, h.d1, h.d2⟩
theorem Rest.below {w : World} {R I X D D2 n₀ : Nat} {vI vX vL : Value} {zs zw : List Nat} {W W' : World} (h : Rest w R I X D D2 n₀ vI vX vL zs zw W) (hb : Below W.heap.size W W') : Rest w R I X D D2 n₀ vI vX vL zs zw W' := by
  obtain ⟨b, hbx⟩ := h.box
  exact ⟨h.base.trans (hb.mono h.base.size), ⟨b, boxed_below hbx hb⟩, boxed_below h.boxI hb, boxed_below h.boxX hb, words_at h.want hb, lent_below h.lent hb,
    (hb.block D (Array.getElem?_eq_some_iff.1 h.d1).1).trans h.d1, (hb.block D2 (Array.getElem?_eq_some_iff.1 h.d2).1).trans h.d2⟩
theorem Rest.set {w : World} {R I X D D2 n₀ : Nat} {vI vX vL : Value} {zs zw : List Nat} {W : World} (h : Rest w R I X D D2 n₀ vI vX vL zs zw W) (hR : w.heap.size ≤ R) (hI : I ≠ R) (hX : X ≠ R) (b' : Bool) : Rest w R I X D D2 n₀ vI vX vL zs zw (W.setCell ⟨R, 0, none⟩ (.bool b')) := by
  obtain ⟨b, hbx⟩ := h.box
  have hd : ∀ k, W.heap[k]? = some (Obj.deferred (some [])) → (W.setCell ⟨R, 0, none⟩ (.bool b')).heap[k]? = some (Obj.deferred (some [])) := fun k hk => by
    have hne : k ≠ R := fun e => by rw [e, show W.heap[R]? = _ from hbx] at hk; cases hk
    rw [Below.heap_setCell _ _ _ _ (by simpa using hne), hk]
  exact ⟨h.base.setCell (p := ⟨R, 0, none⟩) hR _, ⟨b', hbx.set _⟩, h.boxI.other hI _, h.boxX.other hX _, words_set h.want hbx, lent_set h.lent hbx, hd _ h.d1, hd _ h.d2⟩
theorem put_other {W : World} {k l : Nat} (h : k ≠ l) (o : Obj) : (W.putObj k o).heap[l]? = W.heap[l]? := by
  show (W.heap.setIfInBounds k o)[l]? = _
  rw [Array.getElem?_setIfInBounds, if_neg h]
def cellOf (W : World) (R : Nat) : Value := (W.cell? ⟨R, 0, none⟩).getD undef
theorem rest_s {w : World} {R I X D D2 n₀ : Nat} {vI vX vL : Value} {zs zw : List Nat} {W : World} (h : Rest w R I X D D2 n₀ vI vX vL zs zw W) :
    W.cell? ⟨I, 0, none⟩ = some vI ∧ W.cell? ⟨X, 0, none⟩ = some vX ∧ W.cell? ⟨R, 0, none⟩ = some (cellOf W R) ∧ W.frozen? ⟨R, 0, none⟩ = false ∧ Rest w R I X D D2 n₀ vI vX vL zs zw W := by
  obtain ⟨b, hbx⟩ := h.box
  exact ⟨h.boxI.cell, h.boxX.cell, by unfold cellOf; rw [hbx.cell]; rfl, hbx.frozen, h⟩
theorem rest_of {p q r t : Prop} {w : World} {R I X D D2 n₀ : Nat} {vI vX vL : Value} {zs zw : List Nat} {W : World} (h : p ∧ q ∧ r ∧ t ∧ Rest w R I X D D2 n₀ vI vX vL zs zw W) : Rest w R I X D D2 n₀ vI vX vL zs zw W := h.2.2.2.2
def Miss (s : ByteArray) (pre : List (Nat × Nat)) : Prop := ∃ ini last, pre = ini ++ [last] ∧ last ≠ wordAt s ini.length
theorem not_miss {s : ByteArray} {k : Nat} (h : Miss s (upto (wordAt s) k)) : False := by
  obtain ⟨ini, last, e, hne⟩ := h
  cases k with
  | zero => simp [upto] at e
  | succ k =>
    rw [upto_succ] at e
    obtain ⟨e1, e2⟩ := List.append_inj' e rfl
    have hl : ini.length = k := by rw [← e1, upto_length]
    have e3 : wordAt s k = last := by simpa using e2
    exact hne (by rw [hl, e3])
theorem miss_mk {s : ByteArray} {pre : List (Nat × Nat)} {x : Nat × Nat} (h : ¬ (x.1 = pre.length ∧ x.2 = wordN s.data.toList pre.length)) : Miss s (pre ++ [x]) :=
  ⟨pre, x, rfl, fun e => h (by rw [e]; exact ⟨rfl, rfl⟩)⟩
set_option maxRecDepth 100000 in
set_option maxHeartbeats 4000000 in
theorem numPacks_main (s : ByteArray) (a0 : Option Addr) (cap0 : Nat) (zs : List Nat) (n : Int) (hs : s.size ≤ 4096) (hl : zs.length ≤ 1000) (hn1 : n ≤ 9223372036854775807) (hz : ∀ z ∈ zs, z < 18446744073709551616) (w : World) (hv : Words w.heap.size w (.slice a0 zs.length cap0) zs) (ht : Tab w) :
    Calls Tryd.prog 12 #[.string s, .slice a0 zs.length cap0, .int .i64 n] w fun e w' => e = .returned (.bool true) ∧ Below w.heap.size w w' := by
  refine (callsIn_wide (n := 6)).1 ?_
  have HT := Lib.hid ht
  have HV := Lib.hid hv
  have HZ := Lib.hid hz
  have hnw : nWords s.size ≤ 1000 := by unfold nWords; omega
  clear ht hv hz
  refine callsIn_of_wp_marks Tryd.func12 rfl trivial ?_ rfl
  simp only [Tryd.ntmps12, List.size_toArray, List.length_cons, List.length_nil, Nat.reduceAdd, Nat.reduceSub, Array.replicate_succ, Array.replicate_zero, List.push_toArray, List.append_toArray, List.nil_append, List.cons_append]
  have h1 : 1 ≤ 6 - 1 := by omega
  have h11 : 1 ≤ 6 := by omega
  -- the result's box; want
  gi_wp2_with fail
  refine ⟨trivial, ?_⟩
  refine (callsIn_wide.2 (refpack_own s (by omega) _)).mono ?_
  rintro e w1 ⟨⟨a1, cap1, rfl, hw1⟩, hb1⟩
  have HR1 := Lib.hid (boxed_below (Boxed.new w 4 (.bool false)) hb1)
  have HB1 := Lib.hid ((bl_self w (.cells #[.bool false] 4)).trans (hb1.mono (by simp)))
  have hz1 : w.heap.size + 1 ≤ w1.heap.size := by have := hb1.size; simpa using this
  have HW1 := Lib.hid hw1
  clear hw1 hb1
  -- in
  gi_wp2_with fail
  refine ⟨trivial, ?_⟩
  have HX1 := Lib.hid (Boxed.new w1 42 (.slice a1 (nWords s.size) cap1))
  have HR1b := Lib.hid (HR1.out.alloc (.cells #[.slice a1 (nWords s.size) cap1] 42))
  have HB1b := Lib.hid (bl_al HB1.out (.cells #[.slice a1 (nWords s.size) cap1] 42))
  have HW1b := Lib.hid (words_to HW1.out (bl_self w1 (.cells #[.slice a1 (nWords s.size) cap1] 42)))
  refine (callsIn_wide.2 (lent_any _ zs hl _ (words_at HV.out HB1b.out))).mono ?_
  rintro e w2 ⟨⟨v2, rfl, hw2⟩, hb2⟩
  have HB2 := Lib.hid (HB1b.out.trans (hb2.mono HB1b.out.size))
  have HR2 := Lib.hid (boxed_below HR1b.out hb2)
  have HX2 := Lib.hid (boxed_below HX1.out hb2)
  have HW2 := Lib.hid (words_to HW1b.out hb2)
  have hz2 : w1.heap.size + 1 ≤ w2.heap.size := by have := hb2.size; simpa using this
  have HL2 := Lib.hid hw2
  obtain ⟨g2, c2, rfl, _⟩ := hw2
  clear hb2
  -- Unpack
  gi_wp2_with fail
  refine ⟨trivial, ?_⟩
  refine (callsIn_wide.2 (unpack_spec _ zs n hl hn1 _ (lent_words HL2.out))).mono ?_
  rintro e w3 ⟨rfl, hb3⟩
  have HB3 := Lib.hid (HB2.out.trans (hb3.mono HB2.out.size))
  have HR3 := Lib.hid (boxed_below HR2.out hb3)
  have HX3 := Lib.hid (boxed_below HX2.out hb3)
  have HW3 := Lib.hid (words_to HW2.out hb3)
  have HL3 := Lib.hid (lent_below HL2.out hb3)
  have hz3 := hb3.size
  clear hb3
  gi_wp2_with fail
  refine ⟨trivial, ?_⟩
  refine (callsIn_wide.2 (refunpack_spec _ zs n hl hn1 HZ.out _ (words_at HV.out HB3.out))).mono ?_
  rintro e w4 ⟨rfl, hb4⟩
  have HB4 := Lib.hid (HB3.out.trans (hb4.mono HB3.out.size))
  have HR4 := Lib.hid (boxed_below HR3.out hb4)
  have HX4 := Lib.hid (boxed_below HX3.out hb4)
  have HW4 := Lib.hid (words_to HW3.out hb4)
  have HL4 := Lib.hid (lent_below HL3.out hb4)
  have hz4 := hb4.size
  clear hb4
  -- Each
  gi_wp2_with fail
  refine ⟨trivial, ?_⟩
  refine (each_in Fence.wide _ trivial rfl _ _).mono ?_
  rintro e w' ⟨rfl, rfl⟩
  have hnf : ∀ (p : Nat) (W : World), (binOp BinOp.eql 48 (Value.func (Fn.func 60) #[] #[Value.pointer (some ⟨p, 0, none⟩)]) Value.nilFunc).run Tryd.prog W = .ok (.bool false) W := fun _ _ => by kernel_rfl
  gi_wp2_with fail
  clear hnf
  have bI := Boxed.new w4 3 (.int .i64 0)
  have bT := Boxed.new (w4.alloc (.cells #[.int .i64 0] 3)) 9 (.string s)
  rw [World.size_alloc] at bT
  apply wpIn_rangeFunc_ownG rfl h11 (gf := 60) (lb := #[.pointer (some ⟨w4.heap.size + 1, 0, none⟩)]) rfl trivial (enters_of Tryd.func60 (by kernel_rfl) rfl)
    (each_stops (6 - 1) (by omega) (w4.heap.size + 1) s (by omega) _ bT) keepBox_t (keepBox_b (by simp)) (Below.refl _ _) (fun _ => rfl)
    (fun pre W => (Boxed W w4.heap.size 3 (.int .i64 (pre.length : Int)) ∧ Boxed W (w4.heap.size + 1) 9 (.string s)) ∧ Below w4.heap.size w4 W)
    (fun c pre _ => c = .ret ∧ Miss s pre)
    (OwnFrom.and (OwnFrom.and (Own.from (boxed_own w4.heap.size 3 (fun (pre : List (Nat × Nat)) => .int .i64 (pre.length : Int))) _) (Own.from (boxed_own (w4.heap.size + 1) 9 (fun _ => .string s)) _)) (ownFrom_below (Nat.le_refl _) (by simp; omega)))
    (fun _ _ _ _ _ hs _ _ => hs)
    ⟨⟨bI.alloc _, bT⟩, ((Below.refl _ w4).alloc (Nat.le_refl _) _).alloc (by simp) _⟩
  case hassign =>
    intro l x W K hK
    gi_wp2
    exact hK
  case hbody =>
    rintro l pre ⟨x1, x2⟩ W ⟨⟨hI, hTx⟩, hB⟩ hlt
    have HBW := Lib.hid hB
    have HTX := Lib.hid hTx
    have hci := hI.cell
    have hfi := hI.frozen
    have HII := Lib.hid hI
    have hcx := (boxed_below HX4.out hB).cell
    have hcr := (boxed_below HR4.out hB).cell
    have hfr := (boxed_below HR4.out hB).frozen
    have hlen : (packL s.data.toList).length = nWords s.size := by rw [packL_length]; simp
    have hwat : (packL s.data.toList).getD pre.length 0 = wordN s.data.toList pre.length := packL_getD _ _ (by simpa using hlt)
    obtain ⟨z, hz⟩ : ∃ z, wordN s.data.toList pre.length = z := ⟨_, rfl⟩
    rw [hz] at hwat
    have HZZ := Lib.hid hz
    have hzw : w.heap.size < w1.heap.size := by omega
    have hz4w : w.heap.size < w4.heap.size := by omega
    obtain ⟨b, off, hab, hcw⟩ : ∃ b off, a1 = some ⟨b, off, none⟩ ∧ W.cell? ⟨b, off + pre.length, none⟩ = some (.int .u64 (z : Nat)) := by
      rcases HW4.out with ⟨_, h2⟩ | ⟨b, off, cap, h2, hb4, _, hc⟩
      · exfalso; rw [h2] at hlen; simp at hlen; omega
      · injection h2 with h3 h4 h5
        refine ⟨b, off, h3, ?_⟩
        rw [hB.cell (p := ⟨b, off + pre.length, none⟩) hb4, hc _ (by omega), hwat]
    clear hI hTx hB hlen hwat hz
    by_cases hx1 : x1 = pre.length
    · by_cases hx2 : x2 = z
      · have HX1E := Lib.hid hx1
        have HX2E := Lib.hid hx2
        have hd1 : ((x1 : Int) != (pre.length : Int)) = false := by
          have : (x1 : Int) = (pre.length : Int) := by omega
          simpa using this
        have hd2 : ((z : Int) != (x2 : Int)) = false := by
          have : (z : Int) = (x2 : Int) := by omega
          simpa using this
        clear hx1 hx2
        subst hab
        have hset := HII.out.set (.int .i64 ((pre.length : Int) + 1))
        have e : (((pre ++ [(x1, x2)]).length : Nat) : Int) = (pre.length : Int) + 1 := by simp
        have HG : Hid ((Boxed (W.setCell ⟨w4.heap.size, 0, none⟩ (.int .i64 ((pre.length : Int) + 1))) w4.heap.size 3 (.int .i64 (((pre ++ [(x1, x2)]).length : Nat) : Int)) ∧ Boxed (W.setCell ⟨w4.heap.size, 0, none⟩ (.int .i64 ((pre.length : Int) + 1))) (w4.heap.size + 1) 9 (.string s)) ∧ Below w4.heap.size w4 (W.setCell ⟨w4.heap.size, 0, none⟩ (.int .i64 ((pre.length : Int) + 1)))) :=
          ⟨⟨by rw [e]; exact hset, HTX.out.other (by omega) _⟩, HBW.out.setCell (p := ⟨w4.heap.size, 0, none⟩) (Nat.le_refl _) _⟩
        clear hset e
        gi_wp2
        exact ⟨(KeepsOthers.setCell _ _ _).from _, fun _ => HG.out.1.2, HG.out⟩
      · have hd1 : ((x1 : Int) != (pre.length : Int)) = false := by
          have : (x1 : Int) = (pre.length : Int) := by omega
          simpa using this
        have hd2 : ((z : Int) != (x2 : Int)) = true := by
          have : ¬ (z : Int) = (x2 : Int) := by omega
          simpa using this
        have HM := Lib.hid (miss_mk (s := s) (pre := pre) (x := (x1, x2)) (fun h => hx2 (by rw [← HZZ.out]; exact h.2)))
        clear hx1 hx2
        subst hab
        gi_wp2
        exact ⟨(KeepsOthers.setCell _ _ _).from _, rfl, HM.out⟩
    · have hd1 : ((x1 : Int) != (pre.length : Int)) = true := by
        have : ¬ (x1 : Int) = (pre.length : Int) := by omega
        simpa using this
      have HM := Lib.hid (miss_mk (s := s) (pre := pre) (x := (x1, x2)) (fun h => hx1 h.1))
      clear hx1
      subst hab
      gi_wp2
      exact ⟨(KeepsOthers.setCell _ _ _).from _, rfl, HM.out⟩
  case hstop =>
    rintro D c pre W hD ⟨k, hk, rfl⟩ ⟨rfl, hm⟩ _
    exact (not_miss hm).elim
  case hdone =>
    rintro D ys W hD rfl ⟨⟨hI, hTx⟩, hB⟩ hK
    rw [upto_length] at hI
    have HK := Lib.hid hK
    have HI := Lib.hid hI
    have HB := Lib.hid hB
    have hDlt : D < W.heap.size := (Array.getElem?_eq_some_iff.1 hK).1
    have hszW := hB.size
    have hbt := hTx.lt
    clear hI hB hK
    gi_wp2_with fail
    apply wpIn_rangeFunc_ownG rfl h11 (gf := 60) (lb := #[.pointer (some ⟨w4.heap.size + 1, 0, none⟩)]) rfl trivial (enters_of Tryd.func60 (by kernel_rfl) rfl)
      (each_stops (6 - 1) (by omega) (w4.heap.size + 1) s (by omega) _ hTx) keepBox_t (keepBox_b hbt) (Below.refl _ _) (fun _ => rfl)
      (fun _ W' => (Boxed W' w4.heap.size 3 (.int .i64 (nWords s.size : Int)) ∧ W'.heap[D]? = some (.deferred (some []))) ∧ Below w4.heap.size w4 W')
      (fun c _ W' => c = .exit 2 ∧ ((Boxed W' w4.heap.size 3 (.int .i64 (nWords s.size : Int)) ∧ W'.heap[D]? = some (.deferred (some []))) ∧ Below w4.heap.size w4 W'))
      (OwnFrom.and (OwnFrom.and (Own.from (boxed_own w4.heap.size 3 (fun (_ : List (Nat × Nat)) => .int .i64 (nWords s.size : Int))) _) (ownFrom_block hDlt)) (ownFrom_below (Nat.le_refl _) (by omega)))
      (fun c => ownFrom_with (OwnFrom.and (OwnFrom.and (Own.from (boxed_own w4.heap.size 3 (fun (_ : List (Nat × Nat)) => .int .i64 (nWords s.size : Int))) _) (ownFrom_block hDlt)) (ownFrom_below (Nat.le_refl _) (by omega))))
      ⟨⟨HI.out, HK.out⟩, HB.out⟩
    case hassign =>
      intro l x W2 K hK2
      gi_wp2
      exact hK2
    case hbody =>
      rintro l pre x W2 h2 _
      have H2 := Lib.hid h2
      clear h2
      gi_wp2
      exact ⟨KeepsFrom.refl _ _, rfl, H2.out⟩
    case hdone =>
      rintro D2 ys2 W2 hD2 _ ⟨⟨hI2, hK1⟩, hB2⟩ hK2
      have hl4 := HL4.out
      rw [World.size_alloc] at hl4
      have HREST : Rest w w.heap.size w4.heap.size w1.heap.size D D2 (w1.heap.size + 1) (.int .i64 (nWords s.size : Int)) (.slice a1 (nWords s.size) cap1) (.slice (some ⟨g2, 0, none⟩) zs.length c2) zs (packL s.data.toList) W2 :=
        ⟨HB4.out.trans (hB2.mono HB4.out.size), ⟨_, boxed_below HR4.out hB2⟩, hI2, boxed_below HX4.out hB2, words_at HW4.out hB2, lent_below hl4 hB2, hK1, hK2⟩
      clear hl4 hI2 hK1 hB2 hK2
      have HLN : Hid ((packL s.data.toList).length ≤ 140737488351232) := by show _ ≤ _; rw [packL_length]; simp; unfold nWords; omega
      have HNE1 : Hid (w4.heap.size ≠ w.heap.size) := by show _ ≠ _; omega
      have HNE2 : Hid (w1.heap.size ≠ w.heap.size) := by show _ ≠ _; omega
      have HNEV := Lib.hid HREST
      clear HREST
      have hnn : ((nWords s.size : Int) == (nWords s.size : Int)) = true := by simp
      gi_wp2_with fail
      refine wpIn_wide.2 ?_
      have hrest := HNEV.out.drew
      go_region_held3 (fun W => W.cell? ⟨w4.heap.size, 0, none⟩ = some (.int .i64 (nWords s.size : Int)) ∧ W.cell? ⟨w1.heap.size, 0, none⟩ = some (.slice a1 (nWords s.size) cap1) ∧ W.cell? ⟨w.heap.size, 0, none⟩ = some (cellOf W w.heap.size) ∧ W.frozen? ⟨w.heap.size, 0, none⟩ = false ∧ Rest w w.heap.size w4.heap.size w1.heap.size D D2 (w1.heap.size + 1) (.int .i64 (nWords s.size : Int)) (.slice a1 (nWords s.size) cap1) (.slice (some ⟨g2, 0, none⟩) zs.length c2) zs (packL s.data.toList) W)
        (first | assumption | exact rest_s (by assumption) | exact rest_s (Rest.set (rest_of (by assumption)) (Nat.le_refl _) HNE1.out HNE2.out _))
        (first
          | (go_at_call 52; refine (pack_own s (by omega) _).mono ?_; rintro e w5 ⟨⟨a5, cap5, rfl, hv5⟩, hb5⟩; have hr5 := Rest.below (rest_of (by assumption)) hb5)
          | (go_at_call 51; refine (same_to' _ _ _ _ true (decide_eq_true rfl) HLN.out _ (ownP_words (by assumption)) (rest_of (by assumption)).want).mono ?_; rintro e w6 ⟨rfl, hb6⟩; have hr6 := Rest.below (rest_of (by assumption)) hb6)
          | (go_at_call 53; refine (kept_any _ _ _ zs hl _ (rest_of (by assumption)).lent (words_at HV.out (rest_of (by assumption)).base)).mono ?_; rintro e w7 ⟨rfl, hb7⟩; have hr7 := Rest.below (rest_of (by assumption)) hb7)
          | (go_at_call 25; refine (known_any _ (tab_at HT.out (rest_of (by assumption)).base)).mono ?_; rintro e w8 ⟨rfl, hb8⟩; have hr8 := Rest.below (rest_of (by assumption)) hb8))
      refine ‹∀ (a : Act) (w : World), Code.wpIn Fence.wide 6 _ Code.ret _ a w → _› _ _ ?_
      have hr9 := hr8.set (Nat.le_refl _) HNE1.out HNE2.out true
      obtain ⟨b8, hbx8⟩ := hr8.box
      have hc9 := (hbx8.set (.bool true)).cell
      have hbx9 := hbx8.set (.bool true)
      gi_wp2_with fail
      refine ⟨by simp, .inl ⟨_, _, rfl, run_takeDeferred hr9.d2, ?_⟩⟩
      have hDD : D2 ≠ D := by omega
      have hd10 := (put_other hDD (.deferred none)).trans hr9.d1
      refine ⟨by simp, .inl ⟨_, _, rfl, run_takeDeferred hd10, ?_⟩⟩
      have hc10 := cell_kept hc9 (grownBy_putObj' _ D2 (.deferred none)) (fun r e => by cases e; exact ⟨_, hr9.d2, rfl⟩)
      have hc11 := cell_kept hc10 (grownBy_putObj' _ D (.deferred none)) (fun r e => by cases e; exact ⟨_, hd10, rfl⟩)
      have hwD : w.heap.size ≤ D := by have := HB4.out.size; simp at hD; omega
      have hwD2 : w.heap.size ≤ D2 := by omega
      refine ⟨.bool true, ?_, rfl, (hr9.base.trans (belowK_b (w := w) (Nat.le_refl _) _ D2 _ _ hwD2 hr9.d2 rfl rfl)).trans (belowK_b (w := w) (Nat.le_refl _) _ D _ _ hwD hd10 rfl rfl)⟩
      simp [results, Tryd.f12, go_sem, hc11]
    case hstop =>
      rintro D2 c pre W2 hD2 _ ⟨rfl, ⟨hI2, hK1⟩, hB2⟩ hK2
      have hl4 := HL4.out
      rw [World.size_alloc] at hl4
      have HREST : Rest w w.heap.size w4.heap.size w1.heap.size D D2 (w1.heap.size + 1) (.int .i64 (nWords s.size : Int)) (.slice a1 (nWords s.size) cap1) (.slice (some ⟨g2, 0, none⟩) zs.length c2) zs (packL s.data.toList) W2 :=
        ⟨HB4.out.trans (hB2.mono HB4.out.size), ⟨_, boxed_below HR4.out hB2⟩, hI2, boxed_below HX4.out hB2, words_at HW4.out hB2, lent_below hl4 hB2, hK1, hK2⟩
      clear hl4 hI2 hK1 hB2 hK2
      have HLN : Hid ((packL s.data.toList).length ≤ 140737488351232) := by show _ ≤ _; rw [packL_length]; simp; unfold nWords; omega
      have HNE1 : Hid (w4.heap.size ≠ w.heap.size) := by show _ ≠ _; omega
      have HNE2 : Hid (w1.heap.size ≠ w.heap.size) := by show _ ≠ _; omega
      have HNEV := Lib.hid HREST
      clear HREST
      have hnn : ((nWords s.size : Int) == (nWords s.size : Int)) = true := by simp
      gi_wp2_with fail
      refine wpIn_wide.2 ?_
      have hrest := HNEV.out.drew
      go_region_held3 (fun W => W.cell? ⟨w4.heap.size, 0, none⟩ = some (.int .i64 (nWords s.size : Int)) ∧ W.cell? ⟨w1.heap.size, 0, none⟩ = some (.slice a1 (nWords s.size) cap1) ∧ W.cell? ⟨w.heap.size, 0, none⟩ = some (cellOf W w.heap.size) ∧ W.frozen? ⟨w.heap.size, 0, none⟩ = false ∧ Rest w w.heap.size w4.heap.size w1.heap.size D D2 (w1.heap.size + 1) (.int .i64 (nWords s.size : Int)) (.slice a1 (nWords s.size) cap1) (.slice (some ⟨g2, 0, none⟩) zs.length c2) zs (packL s.data.toList) W)
        (first | assumption | exact rest_s (by assumption) | exact rest_s (Rest.set (rest_of (by assumption)) (Nat.le_refl _) HNE1.out HNE2.out _))
        (first
          | (go_at_call 52; refine (pack_own s (by omega) _).mono ?_; rintro e w5 ⟨⟨a5, cap5, rfl, hv5⟩, hb5⟩; have hr5 := Rest.below (rest_of (by assumption)) hb5)
          | (go_at_call 51; refine (same_to' _ _ _ _ true (decide_eq_true rfl) HLN.out _ (ownP_words (by assumption)) (rest_of (by assumption)).want).mono ?_; rintro e w6 ⟨rfl, hb6⟩; have hr6 := Rest.below (rest_of (by assumption)) hb6)
          | (go_at_call 53; refine (kept_any _ _ _ zs hl _ (rest_of (by assumption)).lent (words_at HV.out (rest_of (by assumption)).base)).mono ?_; rintro e w7 ⟨rfl, hb7⟩; have hr7 := Rest.below (rest_of (by assumption)) hb7)
          | (go_at_call 25; refine (known_any _ (tab_at HT.out (rest_of (by assumption)).base)).mono ?_; rintro e w8 ⟨rfl, hb8⟩; have hr8 := Rest.below (rest_of (by assumption)) hb8))
      refine ‹∀ (a : Act) (w : World), Code.wpIn Fence.wide 6 _ Code.ret _ a w → _› _ _ ?_
      have hr9 := hr8.set (Nat.le_refl _) HNE1.out HNE2.out true
      obtain ⟨b8, hbx8⟩ := hr8.box
      have hc9 := (hbx8.set (.bool true)).cell
      have hbx9 := hbx8.set (.bool true)
      gi_wp2_with fail
      refine ⟨by simp, .inl ⟨_, _, rfl, run_takeDeferred hr9.d2, ?_⟩⟩
      have hDD : D2 ≠ D := by omega
      have hd10 := (put_other hDD (.deferred none)).trans hr9.d1
      refine ⟨by simp, .inl ⟨_, _, rfl, run_takeDeferred hd10, ?_⟩⟩
      have hc10 := cell_kept hc9 (grownBy_putObj' _ D2 (.deferred none)) (fun r e => by cases e; exact ⟨_, hr9.d2, rfl⟩)
      have hc11 := cell_kept hc10 (grownBy_putObj' _ D (.deferred none)) (fun r e => by cases e; exact ⟨_, hd10, rfl⟩)
      have hwD : w.heap.size ≤ D := by have := HB4.out.size; simp at hD; omega
      have hwD2 : w.heap.size ≤ D2 := by omega
      refine ⟨.bool true, ?_, rfl, (hr9.base.trans (belowK_b (w := w) (Nat.le_refl _) _ D2 _ _ hwD2 hr9.d2 rfl rfl)).trans (belowK_b (w := w) (Nat.le_refl _) _ D _ _ hwD hd10 rfl rfl)⟩
      simp [results, Tryd.f12, go_sem, hc11]
end Go.Proofs.YtladgbfmfhmpiaaDoor
