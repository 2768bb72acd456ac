/- The walk of the statement IsaLines: it returns true. Conditions: the library's tables and bound read as they are laid. -/
import Derived.Test.YtfpgalckmfdcmaaDoorIsaLineI
import Derived.Test.YtfpgalckmfdcmaaDoorIsaKnown
import Derived.Deep.RegionHeld3
import Derived.Deep.QuietTactic
import Derived.BigQuiet
import Derived.RegionTactic
import Derived.BigRegion
namespace Go.Proofs.YtfpgalckmfdcmaaDoor
open Go Go.RowKit Go.Shelf
attribute [local go_sem] Oper.semAt_some
theorem boxed_below {W W' : World} {B : Nat} {t : TypeId} {v : Value} (h : Boxed W B t v) (hb : Below W.heap.size W W') : Boxed W' B t v := (hb.block B h.lt).trans h
theorem ownFrom_withP {β : Type} {B : Nat} {p : β → Prop} {I : β → World → Prop} (h : OwnFrom B I) : OwnFrom B (fun s W => p s ∧ I s W) := fun s W W' row hs hg hr => ⟨hs.1, h s W W' row hs.2 hg hr⟩
theorem keepM_set {m : Int} {W : World} {p : Addr} (h : p.block ≠ 1) (v : Value) : KeepM m W (W.setCell p v) := fun x => (World.cell?_of_block (Below.heap_setCell W _ _ 1 (fun e => h e.symm))).trans x
def MissN (pre : List Nat) : Prop := ∃ ini last, pre = ini ++ [last] ∧ last ≠ ini.length
theorem not_missN {k : Nat} (h : MissN (List.range k)) : False := by
  obtain ⟨ini, last, e, hne⟩ := h
  cases k with
  | zero => simp at e
  | succ k =>
    rw [List.range_succ] at e
    obtain ⟨e1, e2⟩ := List.append_inj' e rfl
    have hl : ini.length = k := by rw [← e1, List.length_range]
    have e3 : k = last := by simpa using e2
    exact hne (by rw [hl, e3])
/-- a line as it lies in the slice of lines -/
theorem line_cell {w W : World} {B : Nat} {a : Option Addr} {n cap : Nat} {L : List UInt8} (h : w.ownsRow B 9 1 (.slice a n cap) (linesOf L).length ((linesOf L).map lineV)) (hb : Below w.heap.size w W) {k : Nat} (hk : k < (linesOf L).length) : ∃ g, a = some ⟨g, 0, none⟩ ∧ W.cell? ⟨g, k, none⟩ = some (lineV (lineAt L k)) := by
  rcases h.2 with ⟨_, h0⟩ | ⟨g, cap', cur, hv, _, hg, _⟩
  · omega
  · have h4 := h
    rw [hv] at h4
    injection hv with h1 h2 h3
    have hlt := (Array.getElem?_eq_some_iff.1 hg).1
    refine ⟨g, h1, ?_⟩
    rw [hb.cell (p := ⟨g, k, none⟩) hlt]
    have := h4.cellAt k (by omega)
    rw [this, List.getElem?_map, List.getElem?_eq_getElem hk]
    simp [lineAt, hk]
theorem line_shape {w : World} {B : Nat} {v : Value} {n : Nat} {xs : List Value} (h : w.ownsRow B 9 1 v n xs) : ∃ a cap, v = .slice a n cap ∧ n ≤ cap ∧ cap ≤ 9223372036854775807 := by
  rcases h.2 with ⟨rfl, rfl⟩ | ⟨g, cap, cur, rfl, _, _, h1, h2, _⟩
  · exact ⟨none, 0, rfl, Nat.le_refl _, by omega⟩
  · exact ⟨_, cap, rfl, h1, by simpa [maxLen] using h2⟩
set_option maxRecDepth 100000 in
set_option maxHeartbeats 8000000 in
theorem isaLines_walk (s : ByteArray) (stop m : Int) (w : World) (ho : Ops w) (ht : Tab w) (hm : w.cell? ⟨1, 0, none⟩ = some (.int .i64 m)) :
    Calls Tryd.prog 6 #[.string s, .int .i64 stop] w fun e w' => e = .returned (.bool true) ∧ Below w.heap.size w w' := by
  have hnf : ∀ (p : Nat) (W : World), (binOp BinOp.eql 42 (Value.func (Fn.func 37) #[] #[Value.pointer (some ⟨p, 0, none⟩)]) Value.nilFunc).run Tryd.prog W = .ok (.bool false) W := fun _ _ => by kernel_rfl
  have HO := Lib.hid ho
  have HT := Lib.hid ht
  have HM := Lib.hid hm
  have hm0 : 1 < w.heap.size := World.block_lt_of_cell? w _ hm
  clear ho ht hm
  refine (callsIn_wide (n := 6)).1 ?_
  have h11 : 1 ≤ 6 - 1 := by omega
  have h12 : 1 ≤ 6 := by omega
  refine callsIn_of_wp_marks Tryd.func6 rfl trivial ?_ rfl
  simp only [Tryd.ntmps6, List.size_toArray, List.length_cons, List.length_nil, Nat.reduceAdd, Nat.reduceSub, Array.replicate_succ, Array.replicate_zero, List.push_toArray, List.append_toArray, List.nil_append, List.cons_append]
  by_cases hs : s.size ≤ 60000
  · have hsI : (s.size : Int) ≤ 60000 := by omega
    have hsd : decide ((60000 : Int) < (s.size : Int)) = false := decide_eq_false (by omega)
    gi_wp2_with fail
    have bR0 := Boxed.new w 3 (.int .i64 stop)
    have bB := Boxed.new (w.alloc (.cells #[.int .i64 stop] 3)) 4 (.bool false)
    rw [World.size_alloc] at bB
    have bR := bR0.alloc (.cells #[.bool false] 4)
    have hB1 : Below w.heap.size w ((w.alloc (.cells #[.int .i64 stop] 3)).alloc (.cells #[.bool false] 4)) := ((Below.refl _ w).alloc (Nat.le_refl _) _).alloc (by simp) _
    obtain ⟨w1, hw1⟩ : ∃ w1, (w.alloc (.cells #[.int .i64 stop] 3)).alloc (.cells #[.bool false] 4) = w1 := ⟨_, rfl⟩
    have hs1 : w1.heap.size = w.heap.size + 2 := by rw [← hw1]; simp
    rw [hw1] at bR bB hB1 ⊢
    clear hw1 bR0
    refine ⟨trivial, ?_⟩
    refine (callsIn_wide.2 (reflines_any s hs w1)).mono ?_
    rintro e w2 ⟨⟨v, rfl, hown⟩, hb2⟩
    obtain ⟨a, cap, rfl, hc1, hc2⟩ := line_shape hown
    have hl60 : (linesOf s.data.toList).length ≤ 60000 := linesOf_len _ _ (by rw [Array.length_toList]; exact hs)
    obtain ⟨L, hL⟩ : ∃ L, s.data.toList = L := ⟨_, rfl⟩
    have HST := Lib.hid (fun Bs W hc hmm => lines_stops (6 - 1) h11 Bs s m hs W hc hmm)
    rw [hL] at hown hc1 hl60 HST ⊢
    obtain ⟨N, hN⟩ : ∃ N, (linesOf L).length = N := ⟨_, rfl⟩
    have HOWN := Lib.hid hown
    rw [hN] at hc1 hl60 HST ⊢
    have HNN := Lib.hid hN
    have HB2 := Lib.hid (hB1.trans (hb2.mono hB1.size))
    have HR2 := Lib.hid (boxed_below bR hb2)
    have HBB2 := Lib.hid (boxed_below bB hb2)
    have hs2 : w.heap.size + 2 ≤ w2.heap.size := by have := hb2.size; omega
    clear bR bB hB1 hb2 hown hN hs1 hL
    gi_wp2_with fail
    refine ⟨trivial, ?_⟩
    refine (lines_in Fence.wide _ trivial rfl _ _).mono ?_
    rintro e w' ⟨rfl, rfl⟩
    have bW0 := Boxed.new w2 39 (.slice a N cap)
    have bS := Boxed.new (w2.alloc (.cells #[.slice a N cap] 39)) 9 (.string s)
    rw [World.size_alloc] at bS
    have bW := bW0.alloc (.cells #[.string s] 9)
    have hB3 : Below w2.heap.size w2 ((w2.alloc (.cells #[.slice a N cap] 39)).alloc (.cells #[.string s] 9)) := ((Below.refl _ w2).alloc (Nat.le_refl _) _).alloc (by simp) _
    gi_wp2_with fail
    obtain ⟨w3, hw3⟩ : ∃ w3, (w2.alloc (.cells #[.slice a N cap] 39)).alloc (.cells #[.string s] 9) = w3 := ⟨_, rfl⟩
    have hs3 : w3.heap.size = w2.heap.size + 2 := by rw [← hw3]; simp
    have hs3' : w2.heap.size + 1 + 1 = w3.heap.size := by omega
    rw [hw3]
    rw [hw3] at bW bS hB3
    rw [hs3']
    have HB3 := Lib.hid hB3
    have HB4 := Lib.hid (HB2.out.trans (hB3.mono HB2.out.size))
    have HW3 := Lib.hid bW
    have HS3 := Lib.hid bS
    have HR3 := Lib.hid (boxed_below HR2.out hB3)
    have HBB3 := Lib.hid (boxed_below HBB2.out hB3)
    have HM4 := Lib.hid ((HB4.out.cell (p := ⟨1, 0, none⟩) hm0).trans HM.out)
    have hw2w : w.heap.size ≤ w2.heap.size := HB2.out.size
    have hs4 : w2.heap.size + 2 ≤ w3.heap.size := by omega
    have hs5 : w.heap.size + 1 < w3.heap.size := by omega
    have hs6 : w.heap.size < w3.heap.size := by omega
    have hs7 : w2.heap.size < w3.heap.size := by omega
    have hm3 : 1 < w3.heap.size := by omega
    clear hw3 bW0 bW hB3 hs3' hs3 hs2
    have bI := Boxed.new w3 3 (.int .i64 0)
    apply wpIn_rangeFunc_ownG rfl h12 (gf := 37) (lb := #[.pointer (some ⟨w2.heap.size + 1, 0, none⟩)]) rfl trivial (enters_of Tryd.func37 (by kernel_rfl) rfl)
      (HST.out (w2.heap.size + 1) _ (bS.alloc _) ((((Below.refl _ w3).alloc (Nat.le_refl _) _).cell (p := ⟨1, 0, none⟩) hm3).trans HM4.out)) keepM_t (keepM_b (Nat.lt_of_lt_of_le hm3 (by simp))) (Below.refl _ _) (fun _ => rfl)
      (fun pre W => Boxed W w3.heap.size 3 (.int .i64 (pre.length : Int)) ∧ Below w3.heap.size w3 W)
      (fun c pre W => (c = .exit 0 ∧ stop ≤ (pre.length : Int) ∧ 1 ≤ pre.length) ∧ (Boxed W w3.heap.size 3 (.int .i64 (pre.length : Int)) ∧ Below w3.heap.size w3 W))
      (OwnFrom.and (Own.from (boxed_own w3.heap.size 3 (fun (pre : List Nat) => .int .i64 (pre.length : Int))) _) (ownFrom_below (Nat.le_refl _) (by simp)))
      (fun c => ownFrom_withP (OwnFrom.and (Own.from (boxed_own w3.heap.size 3 (fun (pre : List Nat) => .int .i64 (pre.length : Int))) _) (ownFrom_below (Nat.le_refl _) (by simp))))
      ⟨bI, (Below.refl _ w3).alloc (Nat.le_refl _) _⟩
    case hassign =>
      intro l x W K hK
      gi_wp2
      exact hK
    case hbody =>
      rintro l pre x W ⟨hI, hB⟩ hlt
      have hci := hI.cell
      have hfi := hI.frozen
      have hcr := (boxed_below HR3.out hB).cell
      have hset := hI.set (.int .i64 ((pre.length : Int) + 1))
      have HG : Hid (Boxed (W.setCell ⟨w3.heap.size, 0, none⟩ (.int .i64 ((pre.length : Int) + 1))) w3.heap.size 3 (.int .i64 (((pre ++ [x]).length : Nat) : Int)) ∧ Below w3.heap.size w3 (W.setCell ⟨w3.heap.size, 0, none⟩ (.int .i64 ((pre.length : Int) + 1)))) :=
        ⟨by rw [show (((pre ++ [x]).length : Nat) : Int) = (pre.length : Int) + 1 from by simp]; exact hset, hB.setCell (p := ⟨w3.heap.size, 0, none⟩) (Nat.le_refl _) _⟩
      obtain ⟨K, hK⟩ : ∃ K, pre.length = K := ⟨_, rfl⟩
      have HK := Lib.hid hK
      rw [hK] at hci hlt HG
      have hk0 : (0 : Int) ≤ K := by omega
      have hk1 : (K : Int) < 60000 := by omega
      by_cases hq : stop ≤ (K : Int) + 1
      · have hd : decide (stop ≤ (K : Int) + 1) = true := decide_eq_true hq
        have HQ := Lib.hid hq
        clear hI hB hset hK
        gi_wp2
        exact ⟨(KeepsOthers.setCell _ _ _).from _, ⟨rfl, by have := HK.out; have := HQ.out; simp; omega, by simp⟩, HG.out⟩
      · have hd : decide (stop ≤ (K : Int) + 1) = false := decide_eq_false hq
        clear hI hB hset hK
        gi_wp2
        exact ⟨(KeepsOthers.setCell _ _ _).from _, keepM_set (by show w3.heap.size ≠ _; omega) _, HG.out⟩
    case hdone =>
      rintro D ys W hD rfl ⟨hI, hB⟩ hK
      rw [List.length_range] at hI
      -- REST
      have HKD := Lib.hid hK
      have HI1 := Lib.hid hI
      have HB5 := Lib.hid (HB4.out.trans (hB.mono HB4.out.size))
      have HW5 := Lib.hid (boxed_below HW3.out hB)
      have HS5 := Lib.hid (boxed_below HS3.out hB)
      have HR5 := Lib.hid (boxed_below HR3.out hB)
      have HBB5 := Lib.hid (boxed_below HBB3.out hB)
      have HM5 := Lib.hid ((HB5.out.cell (p := ⟨1, 0, none⟩) hm0).trans HM.out)
      have hO5 : Below w2.heap.size w2 W := HB3.out.trans (hB.mono (by omega))
      have HO5 := Lib.hid hO5
      have hszW : w3.heap.size + 1 ≤ W.heap.size := hI.lt
      have hmW : 1 < W.heap.size := by omega
      have hsW5 : w.heap.size + 1 < W.heap.size := by omega
      have hsW6 : w.heap.size < W.heap.size := by omega
      have hsW7 : w2.heap.size < W.heap.size := by omega
      have hsW8 : w3.heap.size < W.heap.size := by omega
      have hDlt : D < W.heap.size := (Array.getElem?_eq_some_iff.1 hK).1
      have hDw : w3.heap.size + 1 ≤ D := by simpa using hD
      clear hI hB hK hO5
      gi_wp2_with fail
      have bJ := Boxed.new W 3 (.int .i64 0)
      apply wpIn_rangeFunc_ownG rfl h12 (gf := 37) (lb := #[.pointer (some ⟨w2.heap.size + 1, 0, none⟩)]) rfl trivial (enters_of Tryd.func37 (by kernel_rfl) rfl)
        (HST.out (w2.heap.size + 1) _ (HS5.out.alloc _) ((((Below.refl _ W).alloc (Nat.le_refl _) _).cell (p := ⟨1, 0, none⟩) hmW).trans HM5.out)) keepM_t (keepM_b (Nat.lt_of_lt_of_le hmW (by simp))) (Below.refl _ _) (fun _ => rfl)
        (fun pre W' => Boxed W' W.heap.size 3 (.int .i64 (pre.length : Int)) ∧ Below W.heap.size W W')
        (fun c pre _ => c = .ret ∧ MissN pre)
        (OwnFrom.and (Own.from (boxed_own W.heap.size 3 (fun (pre : List Nat) => .int .i64 (pre.length : Int))) _) (ownFrom_below (Nat.le_refl _) (by simp)))
        (fun _ _ _ _ _ hs _ _ => hs)
        ⟨bJ, (Below.refl _ W).alloc (Nat.le_refl _) _⟩
      case hassign =>
        intro l x W2 K hK2
        gi_wp2
        exact hK2
      case hbody =>
        rintro l pre x W2 ⟨hJ, hB2⟩ hlt
        have hcj := hJ.cell
        have hfj := hJ.frozen
        have hcw := (boxed_below HW5.out hB2).cell
        have hcb := (boxed_below HBB5.out hB2).cell
        have hfb := (boxed_below HBB5.out hB2).frozen
        obtain ⟨g, hga, hcl⟩ := line_cell HOWN.out (HO5.out.trans (hB2.mono HO5.out.size)) (k := pre.length) (by rw [HNN.out]; exact hlt)
        obtain ⟨K, hK⟩ : ∃ K, pre.length = K := ⟨_, rfl⟩
        rw [hK] at hcj hcl hlt
        have HJ := Lib.hid hJ
        have HB2' := Lib.hid hB2
        have HK := Lib.hid hK
        have HGA := Lib.hid hga
        have hge1 : decide (N ≤ K) = false := decide_eq_false (by omega)
        have hge2 : decide ((N : Int) ≤ (K : Int)) = false := decide_eq_false (by omega)
        have hk0 : (0 : Int) ≤ K := by omega
        have hk1 : (K : Int) < N := by omega
        by_cases hx : x = K
        · subst hx
          have hq : ((x : Int) != (x : Int)) = false := by simp
          have hset := hJ.set (.int .i64 ((x : Int) + 1))
          have HG : Hid (Boxed (W2.setCell ⟨W.heap.size, 0, none⟩ (.int .i64 ((x : Int) + 1))) W.heap.size 3 (.int .i64 (((pre ++ [x]).length : Nat) : Int)) ∧ Below W.heap.size W (W2.setCell ⟨W.heap.size, 0, none⟩ (.int .i64 ((x : Int) + 1)))) :=
            ⟨by rw [show (((pre ++ [x]).length : Nat) : Int) = (x : Int) + 1 from by simp [hK]]; exact hset, hB2.setCell (p := ⟨W.heap.size, 0, none⟩) (Nat.le_refl _) _⟩
          unfold lineV at hcl ⊢
          obtain ⟨z, hz⟩ : ∃ z : List UInt8, lineAt L x = z := ⟨_, rfl⟩
          rw [hz] at hcl ⊢
          rw [hga] at hcw
          clear hJ hB2 hK hset hga hz
          gi_wp2
          exact ⟨(KeepsOthers.setCell _ _ _).from _, keepM_set (by show W.heap.size ≠ _; omega) _, HG.out⟩
        · have hq : ((x : Int) != (K : Int)) = true := by
            have : ¬ (x : Int) = (K : Int) := by omega
            simpa using this
          have HMI : Hid (MissN (pre ++ [x])) := ⟨pre, x, rfl, by rw [hK]; exact hx⟩
          clear hJ hB2 hK hga hx
          gi_wp2
          exact ⟨(KeepsOthers.setCell _ _ _).from _, rfl, HMI.out⟩
      case hstop =>
        rintro D2 c pre W2 hD2 ⟨k, hk, rfl⟩ ⟨rfl, hmi⟩ _
        exact (not_missN hmi).elim
      case hdone =>
        rintro D2 ys W2 hD2 rfl ⟨hJ, hB2⟩ hK2
        rw [List.length_range] at hJ
        have hcj := hJ.cell
        have hcw := (boxed_below HW5.out hB2).cell
        have hcn := (boxed_below HI1.out hB2).cell
        have hcr := (boxed_below HR5.out hB2).cell
        have hd1 : W2.heap[D]? = some (.deferred (some [])) := (hB2.block D hDlt).trans HKD.out
        have HB6 := Lib.hid (HB5.out.trans (hB2.mono HB5.out.size))
        have HBX6 := Lib.hid (boxed_below HBB5.out hB2)
        have HD1 := Lib.hid hd1
        have HD2 := Lib.hid hK2
        have hW2 := hB2.size
        have hD2w : W.heap.size + 1 ≤ D2 := by simpa using hD2
        have hnn : ((N : Int) == (N : Int)) = true := by simp
        have HO6 := Lib.hid (ops_below HO.out (Nat.le_refl _) HB6.out)
        have HT6 := Lib.hid (tab_below HT.out (Nat.le_refl _) HB6.out)
        clear hJ hB2 hK2 hd1
        gi_wp2_with fail
        refine ⟨trivial, ?_⟩
        refine (callsIn_wide.2 (known_any _ HO6.out HT6.out)).mono ?_
        rintro e w9 ⟨rfl, hb9⟩
        have hbx9 := boxed_below HBX6.out hb9
        have hd19 := (hb9.block D (Array.getElem?_eq_some_iff.1 HD1.out).1).trans HD1.out
        have hd29 := (hb9.block D2 (Array.getElem?_eq_some_iff.1 HD2.out).1).trans HD2.out
        have hB9 := HB6.out.trans (hb9.mono HB6.out.size)
        have HBX9 := Lib.hid hbx9
        have HD19 := Lib.hid hd19
        have HD29 := Lib.hid hd29
        have HB9 := Lib.hid hB9
        have hcb9 := hbx9.cell
        have hfb9 := hbx9.frozen
        clear hb9 hbx9 hd19 hd29 hB9
        gi_wp2_with fail
        have hbxA := HBX9.out.set (.bool true)
        have hneD : D ≠ w.heap.size + 1 := by omega
        have hneD2 : D2 ≠ w.heap.size + 1 := by omega
        have hdA : (w9.setCell ⟨w.heap.size + 1, 0, none⟩ (.bool true)).heap[D2]? = some (.deferred (some [])) := (Below.heap_setCell w9 _ _ D2 hneD2).trans HD29.out
        have hdB : (w9.setCell ⟨w.heap.size + 1, 0, none⟩ (.bool true)).heap[D]? = some (.deferred (some [])) := (Below.heap_setCell w9 _ _ D hneD).trans HD19.out
        refine ⟨by simp, .inl ⟨_, _, rfl, run_takeDeferred hdA, ?_⟩⟩
        have hDD : D2 ≠ D := by omega
        have hd10 := (put_other hDD (.deferred none)).trans hdB
        refine ⟨by simp, .inl ⟨_, _, rfl, run_takeDeferred hd10, ?_⟩⟩
        have hc10 := cell_kept hbxA.cell (grownBy_putObj' _ D2 (.deferred none)) (fun r e => by cases e; exact ⟨_, hdA, rfl⟩)
        have hc11 := cell_kept hc10 (grownBy_putObj' _ D (.deferred none)) (fun r e => by cases e; exact ⟨_, hd10, rfl⟩)
        refine ⟨.bool true, ?_, rfl, ((HB9.out.setCell (p := ⟨w.heap.size + 1, 0, none⟩) (Nat.le_succ _) _).trans (belowK_b (w := w) (Nat.le_refl _) _ D2 _ _ (by omega) hdA rfl rfl)).trans (belowK_b (w := w) (Nat.le_refl _) _ D _ _ (by omega) hd10 rfl rfl)⟩
        simp [results, Tryd.f6, go_sem, hc11]
    case hstop =>
      rintro D c pre W hD ⟨k, hk, rfl⟩ ⟨⟨rfl, hq1, hq2⟩, hI, hB⟩ hK
      rw [List.length_range] at hI hq1 hq2
      by_cases hkn : k = N
      · have hkn' : N = k := hkn.symm
        clear hkn
        subst hkn'
        -- REST
        have HKD := Lib.hid hK
        have HI1 := Lib.hid hI
        have HB5 := Lib.hid (HB4.out.trans (hB.mono HB4.out.size))
        have HW5 := Lib.hid (boxed_below HW3.out hB)
        have HS5 := Lib.hid (boxed_below HS3.out hB)
        have HR5 := Lib.hid (boxed_below HR3.out hB)
        have HBB5 := Lib.hid (boxed_below HBB3.out hB)
        have HM5 := Lib.hid ((HB5.out.cell (p := ⟨1, 0, none⟩) hm0).trans HM.out)
        have hO5 : Below w2.heap.size w2 W := HB3.out.trans (hB.mono (by omega))
        have HO5 := Lib.hid hO5
        have hszW : w3.heap.size + 1 ≤ W.heap.size := hI.lt
        have hmW : 1 < W.heap.size := by omega
        have hsW5 : w.heap.size + 1 < W.heap.size := by omega
        have hsW6 : w.heap.size < W.heap.size := by omega
        have hsW7 : w2.heap.size < W.heap.size := by omega
        have hsW8 : w3.heap.size < W.heap.size := by omega
        have hDlt : D < W.heap.size := (Array.getElem?_eq_some_iff.1 hK).1
        have hDw : w3.heap.size + 1 ≤ D := by simpa using hD
        clear hI hB hK hO5
        gi_wp2_with fail
        have bJ := Boxed.new W 3 (.int .i64 0)
        apply wpIn_rangeFunc_ownG rfl h12 (gf := 37) (lb := #[.pointer (some ⟨w2.heap.size + 1, 0, none⟩)]) rfl trivial (enters_of Tryd.func37 (by kernel_rfl) rfl)
          (HST.out (w2.heap.size + 1) _ (HS5.out.alloc _) ((((Below.refl _ W).alloc (Nat.le_refl _) _).cell (p := ⟨1, 0, none⟩) hmW).trans HM5.out)) keepM_t (keepM_b (Nat.lt_of_lt_of_le hmW (by simp))) (Below.refl _ _) (fun _ => rfl)
          (fun pre W' => Boxed W' W.heap.size 3 (.int .i64 (pre.length : Int)) ∧ Below W.heap.size W W')
          (fun c pre _ => c = .ret ∧ MissN pre)
          (OwnFrom.and (Own.from (boxed_own W.heap.size 3 (fun (pre : List Nat) => .int .i64 (pre.length : Int))) _) (ownFrom_below (Nat.le_refl _) (by simp)))
          (fun _ _ _ _ _ hs _ _ => hs)
          ⟨bJ, (Below.refl _ W).alloc (Nat.le_refl _) _⟩
        case hassign =>
          intro l x W2 K hK2
          gi_wp2
          exact hK2
        case hbody =>
          rintro l pre x W2 ⟨hJ, hB2⟩ hlt
          have hcj := hJ.cell
          have hfj := hJ.frozen
          have hcw := (boxed_below HW5.out hB2).cell
          have hcb := (boxed_below HBB5.out hB2).cell
          have hfb := (boxed_below HBB5.out hB2).frozen
          obtain ⟨g, hga, hcl⟩ := line_cell HOWN.out (HO5.out.trans (hB2.mono HO5.out.size)) (k := pre.length) (by rw [HNN.out]; exact hlt)
          obtain ⟨K, hK⟩ : ∃ K, pre.length = K := ⟨_, rfl⟩
          rw [hK] at hcj hcl hlt
          have HJ := Lib.hid hJ
          have HB2' := Lib.hid hB2
          have HK := Lib.hid hK
          have HGA := Lib.hid hga
          have hge1 : decide (N ≤ K) = false := decide_eq_false (by omega)
          have hge2 : decide ((N : Int) ≤ (K : Int)) = false := decide_eq_false (by omega)
          have hk0 : (0 : Int) ≤ K := by omega
          have hk1 : (K : Int) < N := by omega
          by_cases hx : x = K
          · subst hx
            have hq : ((x : Int) != (x : Int)) = false := by simp
            have hset := hJ.set (.int .i64 ((x : Int) + 1))
            have HG : Hid (Boxed (W2.setCell ⟨W.heap.size, 0, none⟩ (.int .i64 ((x : Int) + 1))) W.heap.size 3 (.int .i64 (((pre ++ [x]).length : Nat) : Int)) ∧ Below W.heap.size W (W2.setCell ⟨W.heap.size, 0, none⟩ (.int .i64 ((x : Int) + 1)))) :=
              ⟨by rw [show (((pre ++ [x]).length : Nat) : Int) = (x : Int) + 1 from by simp [hK]]; exact hset, hB2.setCell (p := ⟨W.heap.size, 0, none⟩) (Nat.le_refl _) _⟩
            unfold lineV at hcl ⊢
            obtain ⟨z, hz⟩ : ∃ z : List UInt8, lineAt L x = z := ⟨_, rfl⟩
            rw [hz] at hcl ⊢
            rw [hga] at hcw
            clear hJ hB2 hK hset hga hz
            gi_wp2
            exact ⟨(KeepsOthers.setCell _ _ _).from _, keepM_set (by show W.heap.size ≠ _; omega) _, HG.out⟩
          · have hq : ((x : Int) != (K : Int)) = true := by
              have : ¬ (x : Int) = (K : Int) := by omega
              simpa using this
            have HMI : Hid (MissN (pre ++ [x])) := ⟨pre, x, rfl, by rw [hK]; exact hx⟩
            clear hJ hB2 hK hga hx
            gi_wp2
            exact ⟨(KeepsOthers.setCell _ _ _).from _, rfl, HMI.out⟩
        case hstop =>
          rintro D2 c pre W2 hD2 ⟨k, hk, rfl⟩ ⟨rfl, hmi⟩ _
          exact (not_missN hmi).elim
        case hdone =>
          rintro D2 ys W2 hD2 rfl ⟨hJ, hB2⟩ hK2
          rw [List.length_range] at hJ
          have hcj := hJ.cell
          have hcw := (boxed_below HW5.out hB2).cell
          have hcn := (boxed_below HI1.out hB2).cell
          have hcr := (boxed_below HR5.out hB2).cell
          have hd1 : W2.heap[D]? = some (.deferred (some [])) := (hB2.block D hDlt).trans HKD.out
          have HB6 := Lib.hid (HB5.out.trans (hB2.mono HB5.out.size))
          have HBX6 := Lib.hid (boxed_below HBB5.out hB2)
          have HD1 := Lib.hid hd1
          have HD2 := Lib.hid hK2
          have hW2 := hB2.size
          have hD2w : W.heap.size + 1 ≤ D2 := by simpa using hD2
          have hnn : ((N : Int) == (N : Int)) = true := by simp
          have HO6 := Lib.hid (ops_below HO.out (Nat.le_refl _) HB6.out)
          have HT6 := Lib.hid (tab_below HT.out (Nat.le_refl _) HB6.out)
          clear hJ hB2 hK2 hd1
          gi_wp2_with fail
          refine ⟨trivial, ?_⟩
          refine (callsIn_wide.2 (known_any _ HO6.out HT6.out)).mono ?_
          rintro e w9 ⟨rfl, hb9⟩
          have hbx9 := boxed_below HBX6.out hb9
          have hd19 := (hb9.block D (Array.getElem?_eq_some_iff.1 HD1.out).1).trans HD1.out
          have hd29 := (hb9.block D2 (Array.getElem?_eq_some_iff.1 HD2.out).1).trans HD2.out
          have hB9 := HB6.out.trans (hb9.mono HB6.out.size)
          have HBX9 := Lib.hid hbx9
          have HD19 := Lib.hid hd19
          have HD29 := Lib.hid hd29
          have HB9 := Lib.hid hB9
          have hcb9 := hbx9.cell
          have hfb9 := hbx9.frozen
          clear hb9 hbx9 hd19 hd29 hB9
          gi_wp2_with fail
          have hbxA := HBX9.out.set (.bool true)
          have hneD : D ≠ w.heap.size + 1 := by omega
          have hneD2 : D2 ≠ w.heap.size + 1 := by omega
          have hdA : (w9.setCell ⟨w.heap.size + 1, 0, none⟩ (.bool true)).heap[D2]? = some (.deferred (some [])) := (Below.heap_setCell w9 _ _ D2 hneD2).trans HD29.out
          have hdB : (w9.setCell ⟨w.heap.size + 1, 0, none⟩ (.bool true)).heap[D]? = some (.deferred (some [])) := (Below.heap_setCell w9 _ _ D hneD).trans HD19.out
          refine ⟨by simp, .inl ⟨_, _, rfl, run_takeDeferred hdA, ?_⟩⟩
          have hDD : D2 ≠ D := by omega
          have hd10 := (put_other hDD (.deferred none)).trans hdB
          refine ⟨by simp, .inl ⟨_, _, rfl, run_takeDeferred hd10, ?_⟩⟩
          have hc10 := cell_kept hbxA.cell (grownBy_putObj' _ D2 (.deferred none)) (fun r e => by cases e; exact ⟨_, hdA, rfl⟩)
          have hc11 := cell_kept hc10 (grownBy_putObj' _ D (.deferred none)) (fun r e => by cases e; exact ⟨_, hd10, rfl⟩)
          refine ⟨.bool true, ?_, rfl, ((HB9.out.setCell (p := ⟨w.heap.size + 1, 0, none⟩) (Nat.le_succ _) _).trans (belowK_b (w := w) (Nat.le_refl _) _ D2 _ _ (by omega) hdA rfl rfl)).trans (belowK_b (w := w) (Nat.le_refl _) _ D _ _ (by omega) hd10 rfl rfl)⟩
          simp [results, Tryd.f6, go_sem, hc11]
      · have hne : ((k : Int) == (N : Int)) = false := by
          have : ¬ (k : Int) = (N : Int) := by omega
          simpa using this
        have hg1 : decide (stop ≤ (k : Int)) = true := decide_eq_true hq1
        have hg2 : decide ((1 : Int) ≤ (k : Int)) = true := decide_eq_true (by omega)
        -- REST
        have HKD := Lib.hid hK
        have HI1 := Lib.hid hI
        have HB5 := Lib.hid (HB4.out.trans (hB.mono HB4.out.size))
        have HW5 := Lib.hid (boxed_below HW3.out hB)
        have HS5 := Lib.hid (boxed_below HS3.out hB)
        have HR5 := Lib.hid (boxed_below HR3.out hB)
        have HBB5 := Lib.hid (boxed_below HBB3.out hB)
        have HM5 := Lib.hid ((HB5.out.cell (p := ⟨1, 0, none⟩) hm0).trans HM.out)
        have hO5 : Below w2.heap.size w2 W := HB3.out.trans (hB.mono (by omega))
        have HO5 := Lib.hid hO5
        have hszW : w3.heap.size + 1 ≤ W.heap.size := hI.lt
        have hmW : 1 < W.heap.size := by omega
        have hsW5 : w.heap.size + 1 < W.heap.size := by omega
        have hsW6 : w.heap.size < W.heap.size := by omega
        have hsW7 : w2.heap.size < W.heap.size := by omega
        have hsW8 : w3.heap.size < W.heap.size := by omega
        have hDlt : D < W.heap.size := (Array.getElem?_eq_some_iff.1 hK).1
        have hDw : w3.heap.size + 1 ≤ D := by simpa using hD
        clear hI hB hK hO5
        gi_wp2_with fail
        have bJ := Boxed.new W 3 (.int .i64 0)
        apply wpIn_rangeFunc_ownG rfl h12 (gf := 37) (lb := #[.pointer (some ⟨w2.heap.size + 1, 0, none⟩)]) rfl trivial (enters_of Tryd.func37 (by kernel_rfl) rfl)
          (HST.out (w2.heap.size + 1) _ (HS5.out.alloc _) ((((Below.refl _ W).alloc (Nat.le_refl _) _).cell (p := ⟨1, 0, none⟩) hmW).trans HM5.out)) keepM_t (keepM_b (Nat.lt_of_lt_of_le hmW (by simp))) (Below.refl _ _) (fun _ => rfl)
          (fun pre W' => Boxed W' W.heap.size 3 (.int .i64 (pre.length : Int)) ∧ Below W.heap.size W W')
          (fun c pre _ => c = .ret ∧ MissN pre)
          (OwnFrom.and (Own.from (boxed_own W.heap.size 3 (fun (pre : List Nat) => .int .i64 (pre.length : Int))) _) (ownFrom_below (Nat.le_refl _) (by simp)))
          (fun _ _ _ _ _ hs _ _ => hs)
          ⟨bJ, (Below.refl _ W).alloc (Nat.le_refl _) _⟩
        case hassign =>
          intro l x W2 K hK2
          gi_wp2
          exact hK2
        case hbody =>
          rintro l pre x W2 ⟨hJ, hB2⟩ hlt
          have hcj := hJ.cell
          have hfj := hJ.frozen
          have hcw := (boxed_below HW5.out hB2).cell
          have hcb := (boxed_below HBB5.out hB2).cell
          have hfb := (boxed_below HBB5.out hB2).frozen
          obtain ⟨g, hga, hcl⟩ := line_cell HOWN.out (HO5.out.trans (hB2.mono HO5.out.size)) (k := pre.length) (by rw [HNN.out]; exact hlt)
          obtain ⟨K, hK⟩ : ∃ K, pre.length = K := ⟨_, rfl⟩
          rw [hK] at hcj hcl hlt
          have HJ := Lib.hid hJ
          have HB2' := Lib.hid hB2
          have HK := Lib.hid hK
          have HGA := Lib.hid hga
          have hge1 : decide (N ≤ K) = false := decide_eq_false (by omega)
          have hge2 : decide ((N : Int) ≤ (K : Int)) = false := decide_eq_false (by omega)
          have hk0 : (0 : Int) ≤ K := by omega
          have hk1 : (K : Int) < N := by omega
          by_cases hx : x = K
          · subst hx
            have hq : ((x : Int) != (x : Int)) = false := by simp
            have hset := hJ.set (.int .i64 ((x : Int) + 1))
            have HG : Hid (Boxed (W2.setCell ⟨W.heap.size, 0, none⟩ (.int .i64 ((x : Int) + 1))) W.heap.size 3 (.int .i64 (((pre ++ [x]).length : Nat) : Int)) ∧ Below W.heap.size W (W2.setCell ⟨W.heap.size, 0, none⟩ (.int .i64 ((x : Int) + 1)))) :=
              ⟨by rw [show (((pre ++ [x]).length : Nat) : Int) = (x : Int) + 1 from by simp [hK]]; exact hset, hB2.setCell (p := ⟨W.heap.size, 0, none⟩) (Nat.le_refl _) _⟩
            unfold lineV at hcl ⊢
            obtain ⟨z, hz⟩ : ∃ z : List UInt8, lineAt L x = z := ⟨_, rfl⟩
            rw [hz] at hcl ⊢
            rw [hga] at hcw
            clear hJ hB2 hK hset hga hz
            gi_wp2
            exact ⟨(KeepsOthers.setCell _ _ _).from _, keepM_set (by show W.heap.size ≠ _; omega) _, HG.out⟩
          · have hq : ((x : Int) != (K : Int)) = true := by
              have : ¬ (x : Int) = (K : Int) := by omega
              simpa using this
            have HMI : Hid (MissN (pre ++ [x])) := ⟨pre, x, rfl, by rw [hK]; exact hx⟩
            clear hJ hB2 hK hga hx
            gi_wp2
            exact ⟨(KeepsOthers.setCell _ _ _).from _, rfl, HMI.out⟩
        case hstop =>
          rintro D2 c pre W2 hD2 ⟨k, hk, rfl⟩ ⟨rfl, hmi⟩ _
          exact (not_missN hmi).elim
        case hdone =>
          rintro D2 ys W2 hD2 rfl ⟨hJ, hB2⟩ hK2
          rw [List.length_range] at hJ
          have hcj := hJ.cell
          have hcw := (boxed_below HW5.out hB2).cell
          have hcn := (boxed_below HI1.out hB2).cell
          have hcr := (boxed_below HR5.out hB2).cell
          have hd1 : W2.heap[D]? = some (.deferred (some [])) := (hB2.block D hDlt).trans HKD.out
          have HB6 := Lib.hid (HB5.out.trans (hB2.mono HB5.out.size))
          have HBX6 := Lib.hid (boxed_below HBB5.out hB2)
          have HD1 := Lib.hid hd1
          have HD2 := Lib.hid hK2
          have hW2 := hB2.size
          have hD2w : W.heap.size + 1 ≤ D2 := by simpa using hD2
          have hnn : ((N : Int) == (N : Int)) = true := by simp
          have HO6 := Lib.hid (ops_below HO.out (Nat.le_refl _) HB6.out)
          have HT6 := Lib.hid (tab_below HT.out (Nat.le_refl _) HB6.out)
          clear hJ hB2 hK2 hd1
          gi_wp2_with fail
          refine ⟨trivial, ?_⟩
          refine (callsIn_wide.2 (known_any _ HO6.out HT6.out)).mono ?_
          rintro e w9 ⟨rfl, hb9⟩
          have hbx9 := boxed_below HBX6.out hb9
          have hd19 := (hb9.block D (Array.getElem?_eq_some_iff.1 HD1.out).1).trans HD1.out
          have hd29 := (hb9.block D2 (Array.getElem?_eq_some_iff.1 HD2.out).1).trans HD2.out
          have hB9 := HB6.out.trans (hb9.mono HB6.out.size)
          have HBX9 := Lib.hid hbx9
          have HD19 := Lib.hid hd19
          have HD29 := Lib.hid hd29
          have HB9 := Lib.hid hB9
          have hcb9 := hbx9.cell
          have hfb9 := hbx9.frozen
          clear hb9 hbx9 hd19 hd29 hB9
          gi_wp2_with fail
          have hbxA := HBX9.out.set (.bool true)
          have hneD : D ≠ w.heap.size + 1 := by omega
          have hneD2 : D2 ≠ w.heap.size + 1 := by omega
          have hdA : (w9.setCell ⟨w.heap.size + 1, 0, none⟩ (.bool true)).heap[D2]? = some (.deferred (some [])) := (Below.heap_setCell w9 _ _ D2 hneD2).trans HD29.out
          have hdB : (w9.setCell ⟨w.heap.size + 1, 0, none⟩ (.bool true)).heap[D]? = some (.deferred (some [])) := (Below.heap_setCell w9 _ _ D hneD).trans HD19.out
          refine ⟨by simp, .inl ⟨_, _, rfl, run_takeDeferred hdA, ?_⟩⟩
          have hDD : D2 ≠ D := by omega
          have hd10 := (put_other hDD (.deferred none)).trans hdB
          refine ⟨by simp, .inl ⟨_, _, rfl, run_takeDeferred hd10, ?_⟩⟩
          have hc10 := cell_kept hbxA.cell (grownBy_putObj' _ D2 (.deferred none)) (fun r e => by cases e; exact ⟨_, hdA, rfl⟩)
          have hc11 := cell_kept hc10 (grownBy_putObj' _ D (.deferred none)) (fun r e => by cases e; exact ⟨_, hd10, rfl⟩)
          refine ⟨.bool true, ?_, rfl, ((HB9.out.setCell (p := ⟨w.heap.size + 1, 0, none⟩) (Nat.le_succ _) _).trans (belowK_b (w := w) (Nat.le_refl _) _ D2 _ _ (by omega) hdA rfl rfl)).trans (belowK_b (w := w) (Nat.le_refl _) _ D _ _ (by omega) hd10 rfl rfl)⟩
          simp [results, Tryd.f6, go_sem, hc11]
  · have hsI : (60000 : Int) < (s.size : Int) := by omega
    have hsd : decide ((60000 : Int) < (s.size : Int)) = true := decide_eq_true hsI
    gi_wp2_with fail
    have bR0 := Boxed.new w 3 (.int .i64 stop)
    have bB := Boxed.new (w.alloc (.cells #[.int .i64 stop] 3)) 4 (.bool false)
    rw [World.size_alloc] at bB
    have hB1 : Below w.heap.size w ((w.alloc (.cells #[.int .i64 stop] 3)).alloc (.cells #[.bool false] 4)) := ((Below.refl _ w).alloc (Nat.le_refl _) _).alloc (by simp) _
    obtain ⟨w1, hw1⟩ : ∃ w1, (w.alloc (.cells #[.int .i64 stop] 3)).alloc (.cells #[.bool false] 4) = w1 := ⟨_, rfl⟩
    rw [hw1] at bB hB1 ⊢
    clear hw1 bR0
    refine ⟨trivial, ?_⟩
    refine (callsIn_wide.2 (known_any _ (ops_below HO.out (Nat.le_refl _) hB1) (tab_below HT.out (Nat.le_refl _) hB1))).mono ?_
    rintro e w9 ⟨rfl, hb9⟩
    have HBX := Lib.hid (boxed_below bB hb9)
    have HB9 := Lib.hid (hB1.trans (hb9.mono hB1.size))
    have hcb9 := HBX.out.cell
    have hfb9 := HBX.out.frozen
    clear bB hB1 hb9
    gi_wp2_with fail
    have hc11 := (HBX.out.set (.bool true)).cell
    refine ⟨.bool true, ?_, rfl, HB9.out.setCell (p := ⟨w.heap.size + 1, 0, none⟩) (Nat.le_succ _) _⟩
    simp [results, Tryd.f6, go_sem, hc11]
end Go.Proofs.YtfpgalckmfdcmaaDoor
