/- isa.Read of any text. Conditions: the text is no longer than 60000 bytes; the library's tables and bound read as they are laid. -/
import Derived.Test.YtfpgalckmfdcmaaDoorIsaReadR
import Derived.Test.YtfpgalckmfdcmaaDoorIsaLineI
import Derived.Test.YtfpgalckmfdcmaaDoorIsaKnown
import Derived.Deep.RegionHeld3
import Derived.Deep.QuietTactic
import Derived.BigQuiet
import Derived.RegionTactic
import Derived.BigRegion
import Derived.WalkMore
namespace Go.Proofs.YtfpgalckmfdcmaaDoor
open Go Go.RowKit Go.Shelf
attribute [local go_sem] Oper.semAt_some
theorem boxed_below3 {W W' : World} {B : Nat} {t : TypeId} {v : Value} (h : Boxed W B t v) (hb : Below W.heap.size W W') : Boxed W' B t v := (hb.block B h.lt).trans h
theorem ownFrom_withP3 {β : Type} {B : Nat} {p : β → Prop} {I : β → World → Prop} (h : OwnFrom B I) : OwnFrom B (fun s W => p s ∧ I s W) := fun s W W' row hs hg hr => ⟨hs.1, h s W W' row hs.2 hg hr⟩
theorem lineAt_get {L : List UInt8} {k : Nat} (hk : k < (linesOf L).length) : (linesOf L)[k]? = some (lineAt L k) := by
  unfold lineAt
  rw [List.getD_eq_getElem?_getD, List.getElem?_eq_getElem hk]
  rfl
theorem keepM_of_below {m : Int} {W W' : World} (h : Below W.heap.size W W') : KeepM m W W' := fun x => (h.cell (World.block_lt_of_cell? W _ x)).trans x
theorem scope_in {n : Nat} {P : Program} {c : Code} {Q : Exit → Act → World → Prop} {a : Act} {w : World} (h : c.wpIn Fence.wide n P (Exit.noGoto Q) a w) : (Code.scope c).wpIn Fence.wide n P Q a w := wpIn_wide.2 (wp_scope_straight (wpIn_wide.1 h))
theorem ownFrom_ex3 {β γ : Type} {B : Nat} {I : γ → β → World → Prop} (h : ∀ x, OwnFrom B (I x)) : OwnFrom B (fun s W => ∃ x, I x s W) := fun s W W' row ⟨x, hx⟩ hg hr => ⟨x, h x s W W' row hx hg hr⟩
/-- the instructions of the lines told so far -/
def GoodL (L : List UInt8) (pre : List Nat) (xs : List I5) : Prop := xs.length = pre.length ∧ ∀ (j y : Nat) (x : I5), pre[j]? = some y → xs[j]? = some x → LineIs (lineAt L y) x
theorem GoodL.nil (L : List UInt8) : GoodL L [] [] := ⟨rfl, fun j y x h => by simp at h⟩
theorem GoodL.snoc {L : List UInt8} {pre : List Nat} {xs : List I5} {y : Nat} {x : I5} (h : GoodL L pre xs) (hx : LineIs (lineAt L y) x) : GoodL L (pre ++ [y]) (xs ++ [x]) := by
  refine ⟨by simp [h.1], fun j y' x' hj hxj => ?_⟩
  by_cases e : j < pre.length
  · rw [List.getElem?_append_left e] at hj
    rw [List.getElem?_append_left (by rw [h.1]; exact e)] at hxj
    exact h.2 j y' x' hj hxj
  · have hl := (List.getElem?_eq_some_iff.1 hj).1
    rw [List.length_append] at hl
    have hje : j = pre.length := by simp at hl; omega
    subst hje
    have e1 : (pre ++ [y])[pre.length]? = some y := by simp
    have e2 : (xs ++ [x])[pre.length]? = some x := by rw [← h.1]; simp
    rw [e1] at hj
    rw [e2] at hxj
    obtain rfl := Option.some.inj hj
    obtain rfl := Option.some.inj hxj
    exact hx
theorem GoodL.rd {L : List UInt8} {k : Nat} {xs : List I5} (h : GoodL L (List.range k) xs) (hk : k ≤ (linesOf L).length) : RdTo (linesOf L) k xs := by
  refine ⟨by rw [h.1, List.length_range], hk, fun j x t hx ht => ?_⟩
  have hl := (List.getElem?_eq_some_iff.1 hx).1
  rw [h.1, List.length_range] at hl
  have h1 := h.2 j j x (by rw [List.getElem?_range hl]) hx
  rw [lineAt_get (by omega)] at ht
  obtain rfl := Option.some.inj ht
  exact h1
theorem lineAt_len (L : List UInt8) (k : Nat) : (lineAt L k).length ≤ L.length := by
  unfold lineAt
  rw [List.getD_eq_getElem?_getD]
  cases h : (linesOf L)[k]? with
  | none => simp
  | some t => exact linesOf_word L t (List.mem_of_getElem? h)
theorem own_set3 {W : World} {B n s : Nat} {e : TypeId} {v : Value} {xs : List Value} (h : W.ownsRow B e s v n xs) {q : Nat} (hq : q < B) (u : Value) : (W.setCell ⟨q, 0, none⟩ u).ownsRow B e s v n xs := by
  refine h.kept (grownBy_setCell' W q u) ?_
  rcases h.2 with ⟨rfl, _⟩ | ⟨g, cap, cur, rfl, hg, _⟩
  · exact .inl rfl
  · refine .inr fun e' => ?_
    have : g = q := by simpa [Value.ownBlock] using e'
    omega
theorem own_shape5 {W : World} {B n s : Nat} {e : TypeId} {v : Value} {xs : List Value} (h : W.ownsRow B e s v n xs) : ∃ A cap, v = .slice A n cap := by
  rcases h.2 with ⟨rfl, rfl⟩ | ⟨g, cap, cur, rfl, _⟩
  · exact ⟨none, 0, rfl⟩
  · exact ⟨_, cap, rfl⟩
set_option maxRecDepth 100000 in
set_option maxHeartbeats 8000000 in
theorem isread_any (s : ByteArray) (hs : s.size ≤ 60000) (m : Int) (w : World) (ho : Ops w) (ht : Tab w) (hm : w.cell? ⟨1, 0, none⟩ = some (.int .i64 m)) :
    Calls Tryd.prog 16 #[.string s] w (ReadTo (linesOf s.data.toList) w) := by
  have HO := Lib.hid ho
  have HT := Lib.hid ht
  have HM := Lib.hid hm
  have hm0 : 1 < w.heap.size := World.block_lt_of_cell? w _ hm
  clear ho ht hm
  obtain ⟨i0, hi, hz0, hz1, hz2⟩ := info_parts infoIns
  refine (callsIn_wide (n := 6)).1 ?_
  have h11 : 1 ≤ 6 - 1 := by omega
  have h12 : 1 ≤ 6 := by omega
  obtain ⟨L, hL⟩ : ∃ L, s.data.toList = L := ⟨_, rfl⟩
  have HST := Lib.hid (fun Bs W hc hmm => lines_stops (6 - 1) h11 Bs s m hs W hc hmm)
  have hl60 : (linesOf s.data.toList).length ≤ 60000 := linesOf_len _ _ (by rw [Array.length_toList]; exact hs)
  rw [hL] at hl60 HST ⊢
  obtain ⟨N, hN⟩ : ∃ N, (linesOf L).length = N := ⟨_, rfl⟩
  rw [hN] at hl60 HST
  have HNN := Lib.hid hN
  have HL := Lib.hid hL
  clear hN hL
  refine callsIn_of_wp_marks Tryd.func16 rfl trivial ?_ rfl
  simp only [Tryd.ntmps16, List.size_toArray, List.length_cons, List.length_nil, Nat.reduceAdd, Nat.reduceSub, Array.replicate_succ, Array.replicate_zero, List.push_toArray, List.append_toArray, List.nil_append, List.cons_append]
  gi_wp2_with fail
  refine scope_in ?_
  gi_wp2_with fail
  have b00 := Boxed.new w 32 (.slice none 0 0)
  have b10 := Boxed.new (w.alloc (.cells #[.slice none 0 0] 32)) 3 (.int .i64 0)
  have b20 := Boxed.new ((w.alloc (.cells #[.slice none 0 0] 32)).alloc (.cells #[.int .i64 0] 3)) 25 (.int .i64 0)
  rw [World.size_alloc] at b10
  rw [World.size_alloc, World.size_alloc] at b20
  have b0 := (b00.alloc (.cells #[.int .i64 0] 3)).alloc (.cells #[.int .i64 0] 25)
  have b1 := b10.alloc (.cells #[.int .i64 0] 25)
  obtain ⟨w1, hw1⟩ : ∃ w1, ((w.alloc (.cells #[.slice none 0 0] 32)).alloc (.cells #[.int .i64 0] 3)).alloc (.cells #[.int .i64 0] 25) = w1 := ⟨_, rfl⟩
  have hB1 : Below w.heap.size w w1 := by rw [← hw1]; exact (((Below.refl _ w).alloc (Nat.le_refl _) _).alloc (by simp) _).alloc (by simp; omega) _
  have hs1 : w.heap.size + 3 ≤ w1.heap.size := by rw [← hw1]; simp
  rw [hw1] at b0 b1 b20 ⊢
  have HB1 := Lib.hid hB1
  have HR0 := Lib.hid b0
  have HR1 := Lib.hid b1
  have HR2 := Lib.hid b20
  clear hw1 b00 b10 b0 b1 b20 hB1
  gi_wp2_with fail
  refine ⟨trivial, ?_⟩
  refine (lines_in Fence.wide _ trivial rfl _ _).mono ?_
  rintro e w' ⟨rfl, rfl⟩
  have bS := Boxed.new w1 9 (.string s)
  have hB2 : Below w1.heap.size w1 (w1.alloc (.cells #[.string s] 9)) := (Below.refl _ w1).alloc (Nat.le_refl _) _
  gi_wp2_with fail
  obtain ⟨w2, hw2⟩ : ∃ w2, w1.alloc (.cells #[.string s] 9) = w2 := ⟨_, rfl⟩
  rw [hw2] at bS hB2 ⊢
  have hs2 : w1.heap.size < w2.heap.size := bS.lt
  have HB2 := Lib.hid (HB1.out.trans (hB2.mono HB1.out.size))
  have HS2 := Lib.hid bS
  have HR02 := Lib.hid (boxed_below3 HR0.out hB2)
  have HR12 := Lib.hid (boxed_below3 HR1.out hB2)
  have HR22 := Lib.hid (boxed_below3 HR2.out hB2)
  have HM2 := Lib.hid ((HB2.out.cell (p := ⟨1, 0, none⟩) hm0).trans HM.out)
  have hm2 : 1 < w2.heap.size := by omega
  clear hw2 bS hB2
  apply wpIn_rangeFunc_ownG rfl h12 (gf := 37) (lb := #[.pointer (some ⟨w1.heap.size, 0, none⟩)]) rfl trivial (enters_of Tryd.func37 (by kernel_rfl) rfl)
    (HST.out w1.heap.size w2 HS2.out HM2.out) keepM_t (keepM_b hm2) (Below.refl _ _) (fun _ => rfl)
    (fun pre W => (∀ y ∈ pre, y < 4096) ∧ Below w2.heap.size w2 W)
    (fun c pre W => (c = .ret ∧ ∃ y ∈ pre, 4096 ≤ y) ∧ (((Boxed W w.heap.size 32 (.slice none 0 0) ∧ Boxed W (w.heap.size + 1) 3 (.int .i64 0)) ∧ Boxed W (w.heap.size + 1 + 1) 25 (.int .i64 3)) ∧ Below w.heap.size w W))
    (ownFrom_withP3 (ownFrom_below (Nat.le_refl _) (Nat.le_refl _)))
    (fun c => ownFrom_withP3 (OwnFrom.and (OwnFrom.and (OwnFrom.and (Own.from (boxed_own w.heap.size 32 (fun _ => .slice none 0 0)) _) (Own.from (boxed_own (w.heap.size + 1) 3 (fun _ => .int .i64 0)) _)) (Own.from (boxed_own (w.heap.size + 1 + 1) 25 (fun _ => .int .i64 3)) _)) (ownFrom_below (Nat.le_refl _) (by omega))))
    ⟨by simp, Below.refl _ _⟩
  case hassign =>
    intro l x W K hK
    gi_wp2
    exact hK
  case hbody =>
    rintro l pre x W ⟨hI, hB⟩ hlt
    have x0 := boxed_below3 HR02.out hB
    have x1 := boxed_below3 HR12.out hB
    have x2 := boxed_below3 HR22.out hB
    have c0 := x0.cell
    have c1 := x1.cell
    have c2 := x2.cell
    have f0 := x0.frozen
    have f1 := x1.frozen
    have f2 := x2.frozen
    have HI := Lib.hid hI
    by_cases hx : 4096 ≤ x
    · have hd : decide ((4096 : Int) ≤ (x : Int)) = true := decide_eq_true (by omega)
      have HX := Lib.hid hx
      have n01 : w.heap.size ≠ w.heap.size + 1 := by omega
      have n02 : w.heap.size ≠ w.heap.size + 1 + 1 := by omega
      have n12 : w.heap.size + 1 ≠ w.heap.size + 1 + 1 := by omega
      have HG : Hid (((Boxed (((W.setCell ⟨w.heap.size, 0, none⟩ (.slice none 0 0)).setCell ⟨w.heap.size + 1, 0, none⟩ (.int .i64 0)).setCell ⟨w.heap.size + 1 + 1, 0, none⟩ (.int .i64 3)) w.heap.size 32 (.slice none 0 0) ∧ Boxed (((W.setCell ⟨w.heap.size, 0, none⟩ (.slice none 0 0)).setCell ⟨w.heap.size + 1, 0, none⟩ (.int .i64 0)).setCell ⟨w.heap.size + 1 + 1, 0, none⟩ (.int .i64 3)) (w.heap.size + 1) 3 (.int .i64 0)) ∧ Boxed (((W.setCell ⟨w.heap.size, 0, none⟩ (.slice none 0 0)).setCell ⟨w.heap.size + 1, 0, none⟩ (.int .i64 0)).setCell ⟨w.heap.size + 1 + 1, 0, none⟩ (.int .i64 3)) (w.heap.size + 1 + 1) 25 (.int .i64 3)) ∧ Below w.heap.size w (((W.setCell ⟨w.heap.size, 0, none⟩ (.slice none 0 0)).setCell ⟨w.heap.size + 1, 0, none⟩ (.int .i64 0)).setCell ⟨w.heap.size + 1 + 1, 0, none⟩ (.int .i64 3))) :=
        Lib.hid ⟨⟨⟨((x0.set _).other n01 _).other n02 _, ((x1.other (fun e => n01 e.symm) _).set _).other n12 _⟩, ((x2.other (fun e => n02 e.symm) _).other (fun e => n12 e.symm) _).set _⟩,
          (((HB2.out.trans (hB.mono HB2.out.size)).setCell (p := ⟨w.heap.size, 0, none⟩) (Nat.le_refl _) _).setCell (p := ⟨w.heap.size + 1, 0, none⟩) (Nat.le_succ _) _).setCell (p := ⟨w.heap.size + 1 + 1, 0, none⟩) (by show w.heap.size ≤ w.heap.size + 1 + 1; omega) _⟩
      clear x0 x1 x2 hI hB hx
      gi_wp2
      exact ⟨(((KeepsOthers.setCell _ _ _).from _).trans ((KeepsOthers.setCell _ _ _).from _)).trans ((KeepsOthers.setCell _ _ _).from _), ⟨rfl, x, by simp, HX.out⟩, HG.out⟩
    · have hd : decide ((4096 : Int) ≤ (x : Int)) = false := decide_eq_false (by omega)
      have HX := Lib.hid hx
      have HB := Lib.hid hB
      clear x0 x1 x2 hI hB hx
      gi_wp2
      exact ⟨KeepsFrom.refl _ _, fun h => h, fun y hy => by
        rcases List.mem_append.1 hy with h | h
        · exact HI.out y h
        · rw [List.mem_singleton.1 h]; have := HX.out; omega, HB.out⟩
  case hdone =>
    rintro D ys W hD rfl ⟨hI, hB⟩ hK
    have hN4 : N ≤ 4096 := by
      by_cases h : N ≤ 4096
      · exact h
      · have := hI 4096 (List.mem_range.2 (by omega))
        omega
    gi_wp2_with fail
    have HBW := Lib.hid (HB2.out.trans (hB.mono HB2.out.size))
    have HX0 := Lib.hid (boxed_below3 HR02.out hB)
    have HX1 := Lib.hid (boxed_below3 HR12.out hB)
    have HX2 := Lib.hid (boxed_below3 HR22.out hB)
    have HKD := Lib.hid hK
    have hDlt : D < W.heap.size := (Array.getElem?_eq_some_iff.1 hK).1
    have hwW : w.heap.size + 1 + 1 < W.heap.size := HX2.out.lt
    have bL0 := Boxed.new W 32 (.slice none 0 0)
    have bX0 := Boxed.new (W.alloc (.cells #[.slice none 0 0] 32)) 3 (.int .i64 (-1))
    rw [World.size_alloc] at bX0
    have bL1 := bL0.alloc (.cells #[.int .i64 (-1)] 3)
    have hB3 : Below W.heap.size W ((W.alloc (.cells #[.slice none 0 0] 32)).alloc (.cells #[.int .i64 (-1)] 3)) := ((Below.refl _ W).alloc (Nat.le_refl _) _).alloc (by simp) _
    obtain ⟨w3, hw3⟩ : ∃ w3, (W.alloc (.cells #[.slice none 0 0] 32)).alloc (.cells #[.int .i64 (-1)] 3) = w3 := ⟨_, rfl⟩
    rw [hw3] at bL1 bX0 hB3 ⊢
    have HB3 := Lib.hid hB3
    have HL3 := Lib.hid bL1
    have HX3 := Lib.hid bX0
    have hs3 : W.heap.size + 1 < w3.heap.size := bX0.lt
    clear hw3 bL0 bL1 bX0 hB3 hI hB hK
    apply wpIn_label
    gi_wp2_with fail
    refine ⟨trivial, ?_⟩
    refine (lines_in Fence.wide _ trivial rfl _ _).mono ?_
    rintro e w' ⟨rfl, rfl⟩
    have bS := Boxed.new w3 9 (.string s)
    have hB4 : Below w3.heap.size w3 (w3.alloc (.cells #[.string s] 9)) := (Below.refl _ w3).alloc (Nat.le_refl _) _
    gi_wp2_with fail
    obtain ⟨w4, hw4⟩ : ∃ w4, w3.alloc (.cells #[.string s] 9) = w4 := ⟨_, rfl⟩
    rw [hw4] at bS hB4 ⊢
    have hs4 : w3.heap.size < w4.heap.size := bS.lt
    have HB4 := Lib.hid (HB3.out.trans (hB4.mono HB3.out.size))
    have HS4 := Lib.hid bS
    have HL4 := Lib.hid (boxed_below3 HL3.out hB4)
    have HX4 := Lib.hid (boxed_below3 HX3.out hB4)
    have HM4 := Lib.hid (((HBW.out.trans (HB4.out.mono HBW.out.size)).cell (p := ⟨1, 0, none⟩) hm0).trans HM.out)
    have hm4 : 1 < w4.heap.size := by omega
    clear hw4 bS hB4
    apply wpIn_rangeFunc_ownG rfl h12 (gf := 37) (lb := #[.pointer (some ⟨w3.heap.size, 0, none⟩)]) rfl trivial (enters_of Tryd.func37 (by kernel_rfl) rfl)
      (HST.out w3.heap.size w4 HS4.out HM4.out) keepM_t (keepM_b hm4) (Below.refl _ _) (fun _ => rfl)
      (fun pre W' => (∃ xs, GoodL L pre xs ∧ ∃ v, Boxed W' W.heap.size 32 v ∧ W'.ownsRow W.heap.size 23 5 v xs.length (cells5 xs) ∧ True) ∧ (Boxed W' (W.heap.size + 1) 3 (.int .i64 (-1)) ∧ Below W.heap.size W W'))
      (fun c pre W' => ∃ z : List Nat × Nat, (c = .exit 2 ∧ pre = z.1 ++ [z.2] ∧ (∃ xs, GoodL L z.1 xs) ∧ NoText (lineAt L z.2)) ∧ (Boxed W' (W.heap.size + 1) 3 (.int .i64 (z.2 : Int)) ∧ Below W.heap.size W W'))
      (OwnFrom.and (ownFrom_ex3 fun xs => ownFrom_withP3 (Own.from (holdsRow_own W.heap.size W.heap.size 32 23 5 (fun _ => xs.length) (fun _ => cells5 xs) (fun _ _ => True)) _)) (OwnFrom.and (Own.from (boxed_own (W.heap.size + 1) 3 (fun _ => .int .i64 (-1))) _) (ownFrom_below (Nat.le_refl _) (by omega))))
      (fun c => ownFrom_ex3 fun z => ownFrom_withP3 (OwnFrom.and (Own.from (boxed_own (W.heap.size + 1) 3 (fun _ => .int .i64 (z.2 : Int))) _) (ownFrom_below (Nat.le_refl _) (by omega))))
      ⟨⟨[], GoodL.nil L, _, HL4.out, World.ownsRow_nil _ _ _ _, trivial⟩, HX4.out, HB4.out⟩
    case hassign =>
      intro l x W' K hK
      gi_wp2
      exact hK
    case hbody =>
      rintro l pre x W' ⟨⟨xs, hgd, v, hbl, hown, _⟩, hbx, hB⟩ hlt
      have HGD := Lib.hid hgd
      have HBL := Lib.hid hbl
      have HOW := Lib.hid hown
      have HBX := Lib.hid hbx
      have HB5 := Lib.hid hB
      have hll : (lineAt L x).length ≤ 60000 := Nat.le_trans (lineAt_len L x) (by rw [← HL.out, Array.length_toList]; exact hs)
      have HLL := Lib.hid hll
      have HBT := Lib.hid (HBW.out.trans (hB.mono (Nat.le_of_lt (by omega))))
      unfold lineV
      obtain ⟨t, ht⟩ : ∃ t, lineAt L x = t := ⟨_, rfl⟩
      rw [ht] at HLL ⊢
      have HTT := Lib.hid ht
      clear hgd hbl hown hbx hB hll ht
      gi_wp2_with fail
      refine ⟨trivial, ?_⟩
      refine (CallsIn.inRound l (callsIn_wide.2 (ispar_any ⟨t.toArray⟩ (by show t.toArray.size ≤ _; rw [List.size_toArray]; exact Nat.le_trans HLL.out (by decide)) m _ (ops_below HO.out (Nat.le_refl _) HBT.out) (tab_below HT.out (Nat.le_refl _) HBT.out) ((HBT.out.cell (p := ⟨1, 0, none⟩) hm0).trans HM.out)))).mono ?_
      rintro e w5 ⟨⟨o, a, b, c, n, er, rfl, hp⟩, hb5⟩
      unfold InsV
      have HP := Lib.hid hp
      have HB5' := Lib.hid hb5
      have HK5 : Hid (KeepsOthers W' w5) := Lib.hid ⟨hb5.size, fun k o hk _ => (hb5.block k (Array.getElem?_eq_some_iff.1 hk).1).trans hk⟩
      have hs5 : W'.heap.size ≤ w5.heap.size := hb5.size
      have hbl5 := boxed_below3 HBL.out hb5
      have hbx5 := boxed_below3 HBX.out hb5
      have HBL5 := Lib.hid hbl5
      have HBX5 := Lib.hid hbx5
      have HOW5 := Lib.hid (own_later HOW.out hb5)
      have HBB5 := Lib.hid (HB5.out.trans (hb5.mono HB5.out.size))
      have hcl := hbl5.cell
      have hcx := hbx5.cell
      have hfx := hbx5.frozen
      have hWs : W.heap.size + 1 < w5.heap.size := hbx5.lt
      have hWs2 : W.heap.size < w5.heap.size := by omega
      have hxl : xs.length ≤ 60000 := by rw [HGD.out.1]; omega
      clear hp hb5 hbl5 hbx5
      by_cases he : er = 0
      · subst he
        have HLI : Hid (LineIs (lineAt L x) ⟨o, a, b, c, n⟩) := Lib.hid (by rw [HTT.out]; exact lineIs_of HP.out rfl)
        have HNW := Lib.hid (ins_new2 w5 ⟨o, a, b, c, n⟩)
        have HSN := Lib.hid (cells5_snoc xs ⟨o, a, b, c, n⟩)
        have HGD2 := Lib.hid (HGD.out.snoc HLI.out)
        gi_wp2_with (gi_at_builtin; go_loud (refine wpListIn_append_own _ rfl (.tmp 31) (.tmp 33) 32 rfl W.heap.size 23 i0 (.agg #[.int .i64 0, .int .i64 0, .int .i64 0, .int .i64 0, .int .i64 0]) 5 40 Tryd.underlying32 hi hz0 hz1 hz2 rfl (by decide) _ _ _ rfl ((HOW5.out.alloc _).alloc _) ⟨w5.heap.size + 1, 0, none⟩ 1 1 (I5.vs ⟨o, a, b, c, n⟩) rfl rfl HNW.out (fun u hu => cells5_one [⟨o, a, b, c, n⟩] u (by simpa [cells5] using hu)) (by unfold maxLen; omega) (by omega) (by simp; omega) ?_; intro v' w7 hown' hgrow _; rw [HSN.out] at hown'; obtain ⟨g', cap', rfl⟩ := ownsRow_succ hown'; obtain ⟨hv1, hv2, hr2, hk2, hb2⟩ := (HBL5.out.alloc (.cells #[.int .i64 o, .int .i64 a, .int .i64 b, .int .i64 c, .int .i64 n] 23)).appended (by decide) (HOW5.out.alloc _) (by simp; omega) (Nat.le_refl _) hown' hgrow; have hc1 := hv1.cell; have hf1 := hv1.frozen; have HV2 := Lib.hid hv2; have HR2' := Lib.hid hr2; have HK2 := Lib.hid hk2; have HB2' := Lib.hid hb2; have HBX7 := Lib.hid (((HBX5.out.alloc (.cells #[.int .i64 o, .int .i64 a, .int .i64 b, .int .i64 c, .int .i64 n] 23)).alloc (.cells #[.int .i64 o, .int .i64 a, .int .i64 b, .int .i64 c, .int .i64 n] 23)).kept hgrow (((HBX5.out.alloc (.cells #[.int .i64 o, .int .i64 a, .int .i64 b, .int .i64 c, .int .i64 n] 23)).alloc (.cells #[.int .i64 o, .int .i64 a, .int .i64 b, .int .i64 c, .int .i64 n] 23)).not_row (by decide) ((HOW5.out.alloc _).alloc _))); clear hv2 hr2 hk2 hb2 hown' hgrow))
        have hA : Below W.heap.size W (w5.alloc (.cells #[.int .i64 o, .int .i64 a, .int .i64 b, .int .i64 c, .int .i64 n] 23)) := HBB5.out.alloc (by omega) _
        have hKA := (HK5.out.trans (KeepsOthers.alloc w5 (.cells #[.int .i64 o, .int .i64 a, .int .i64 b, .int .i64 c, .int .i64 n] 23))).trans HK2.out
        have hBn := hA.trans HB2'.out
        have hbx8 := HBX7.out.other (B' := W.heap.size) (by omega) (.slice (some ⟨g', 0, none⟩) (xs.length + 1) cap')
        refine ⟨hKA.from _, ?_, ⟨_, HGD2.out, _, HV2.out, by simpa using HR2'.out, trivial⟩, hbx8, hBn⟩
        intro hmm
        exact ((HBW.out.trans (hBn.mono HBW.out.size)).cell (p := ⟨1, 0, none⟩) hm0).trans HM.out
      · have hq : (er == 0) = false := by simpa using he
        have HNT := Lib.hid (noText_of HP.out he)
        have hset := (HBX5.out.alloc (.cells #[.int .i64 o, .int .i64 a, .int .i64 b, .int .i64 c, .int .i64 n] 23)).set (.int .i64 (x : Int))
        have HSET := Lib.hid hset
        clear he hset
        gi_wp2_with fail
        have HNT2 : Hid (NoText (lineAt L x)) := Lib.hid (by rw [HTT.out]; exact HNT.out)
        first
          | exact ⟨((HK5.out.trans (KeepsOthers.setCell _ _ _)).trans (KeepsOthers.alloc _ _)).from _, (pre, x), ⟨rfl, rfl, ⟨xs, HGD.out⟩, HNT2.out⟩, (HBX5.out.set _).alloc _, (HBB5.out.setCell (p := ⟨W.heap.size + 1, 0, none⟩) (Nat.le_succ _) _).alloc (by simp; omega) _⟩
          | exact ⟨((HK5.out.trans (KeepsOthers.alloc _ _)).trans (KeepsOthers.setCell _ _ _)).from _, (pre, x), ⟨rfl, rfl, ⟨xs, HGD.out⟩, HNT2.out⟩, HSET.out, (HBB5.out.alloc (by omega) _).setCell (p := ⟨W.heap.size + 1, 0, none⟩) (Nat.le_succ _) _⟩
    case hdone =>
      rintro D2 ys W2 hD2 rfl ⟨⟨xs, hgd, v, hbl, hown, _⟩, hbx, hB⟩ hK2
      have HRD := Lib.hid (hgd.rd (by rw [HNN.out]; exact Nat.le_refl _))
      obtain ⟨A, cap, rfl⟩ := own_shape5 hown
      have x0 := boxed_below3 HX0.out hB
      have x1 := boxed_below3 HX1.out hB
      have x2 := boxed_below3 HX2.out hB
      have HD1 := Lib.hid ((hB.block D hDlt).trans HKD.out)
      have HD2 := Lib.hid hK2
      have HOW := Lib.hid hown
      have HBB := Lib.hid (HBW.out.trans (hB.mono HBW.out.size))
      have HX02 := Lib.hid x0
      have HX12 := Lib.hid x1
      have HX22 := Lib.hid x2
      have c0 := x0.cell
      have c1 := x1.cell
      have c2 := x2.cell
      have f0 := x0.frozen
      have f1 := x1.frozen
      have f2 := x2.frozen
      have cl := hbl.cell
      have cx := hbx.cell
      have hD2w : w4.heap.size ≤ D2 := hD2
      clear hgd hbl hown hbx hB hK2 x0 x1 x2
      gi_wp2_with fail
      have n01 : w.heap.size ≠ w.heap.size + 1 := by omega
      have n02 : w.heap.size ≠ w.heap.size + 1 + 1 := by omega
      have n12 : w.heap.size + 1 ≠ w.heap.size + 1 + 1 := by omega
      obtain ⟨w9, hw9⟩ : ∃ w9, ((W2.setCell ⟨w.heap.size, 0, none⟩ (.slice A xs.length cap)).setCell ⟨w.heap.size + 1, 0, none⟩ (.int .i64 0)).setCell ⟨w.heap.size + 1 + 1, 0, none⟩ (.int .i64 0) = w9 := ⟨_, rfl⟩
      have hb9 : ∀ k, k ≠ w.heap.size → k ≠ w.heap.size + 1 → k ≠ w.heap.size + 1 + 1 → w9.heap[k]? = W2.heap[k]? := fun k h0 h1 h2 => by
        rw [← hw9]
        exact ((Below.heap_setCell _ _ _ k h2).trans (Below.heap_setCell _ _ _ k h1)).trans (Below.heap_setCell _ _ _ k h0)
      have z0 : Boxed w9 w.heap.size 32 (.slice A xs.length cap) := by rw [← hw9]; exact ((HX02.out.set _).other n01 _).other n02 _
      have z1 : Boxed w9 (w.heap.size + 1) 3 (.int .i64 0) := by rw [← hw9]; exact ((HX12.out.other (fun e => n01 e.symm) _).set _).other n12 _
      have z2 : Boxed w9 (w.heap.size + 1 + 1) 25 (.int .i64 0) := by rw [← hw9]; exact ((HX22.out.other (fun e => n02 e.symm) _).other (fun e => n12 e.symm) _).set _
      have hB9 : Below w.heap.size w w9 := by rw [← hw9]; exact ((HBB.out.setCell (p := ⟨w.heap.size, 0, none⟩) (Nat.le_refl _) _).setCell (p := ⟨w.heap.size + 1, 0, none⟩) (Nat.le_succ _) _).setCell (p := ⟨w.heap.size + 1 + 1, 0, none⟩) (by show w.heap.size ≤ w.heap.size + 1 + 1; omega) _
      have hO9 : w9.ownsRow w.heap.size 23 5 (.slice A xs.length cap) xs.length (cells5 xs) := by
        rw [← hw9]
        exact own_base (own_set3 (own_set3 (own_set3 HOW.out (by show w.heap.size < _; omega) _) (by show w.heap.size + 1 < _; omega) _) (by show w.heap.size + 1 + 1 < _; omega) _) (by omega)
      have hdA := (hb9 D2 (by omega) (by omega) (by omega)).trans HD2.out
      have hdB := (hb9 D (by omega) (by omega) (by omega)).trans HD1.out
      rw [hw9]
      clear hw9 hb9
      refine ⟨by simp, .inl ⟨_, _, rfl, run_takeDeferred hdA, ?_⟩⟩
      have hDD : D2 ≠ D := by omega
      have hd10 := (put_other hDD (.deferred none)).trans hdB
      refine ⟨by simp, .inl ⟨_, _, rfl, run_takeDeferred hd10, ?_⟩⟩
      have k0 := cell_kept (cell_kept z0.cell (grownBy_putObj' _ D2 (.deferred none)) (fun r e => by cases e; exact ⟨_, hdA, rfl⟩)) (grownBy_putObj' _ D (.deferred none)) (fun r e => by cases e; exact ⟨_, hd10, rfl⟩)
      have k1 := cell_kept (cell_kept z1.cell (grownBy_putObj' _ D2 (.deferred none)) (fun r e => by cases e; exact ⟨_, hdA, rfl⟩)) (grownBy_putObj' _ D (.deferred none)) (fun r e => by cases e; exact ⟨_, hd10, rfl⟩)
      have k2 := cell_kept (cell_kept z2.cell (grownBy_putObj' _ D2 (.deferred none)) (fun r e => by cases e; exact ⟨_, hdA, rfl⟩)) (grownBy_putObj' _ D (.deferred none)) (fun r e => by cases e; exact ⟨_, hd10, rfl⟩)
      have hO10 := ownsRow_putObj (ownsRow_putObj hO9 (.deferred none) hdA rfl) (.deferred none) hd10 rfl
      refine ⟨.tuple #[.slice A xs.length cap, .int .i64 0, .int .i64 0], ?_, ⟨_, xs, 0, 0, rfl, .inr (.inr ⟨by rw [HNN.out]; exact hN4, by rw [HNN.out]; exact HRD.out, rfl, rfl⟩), hO10⟩, (hB9.trans (belowK_b (w := w) (Nat.le_refl _) _ D2 _ _ (by omega) hdA rfl rfl)).trans (belowK_b (w := w) (Nat.le_refl _) _ D _ _ (by omega) hd10 rfl rfl)⟩
      simp [results, Tryd.f16, go_sem, k0, k1, k2]
    case hstop =>
      rintro D2 c pre W2 hD2 ⟨k, hk, rfl⟩ ⟨⟨pre', x⟩, ⟨rfl, hpe, ⟨xs, hgd⟩, hnt⟩, hbx, hB⟩ hK2
      have hkx : k = x + 1 ∧ pre' = List.range x := by
        cases k with
        | zero => simp at hpe
        | succ k =>
          rw [List.range_succ] at hpe
          obtain ⟨e1, e2⟩ := List.append_inj' hpe rfl
          have e3 : k = x := by simpa using e2
          subst e3
          exact ⟨rfl, e1.symm⟩
      obtain ⟨hkx1, rfl⟩ := hkx
      have hxN : x < N := by omega
      have HRD := Lib.hid (hgd.rd (k := x) (by rw [HNN.out]; omega))
      have HNT := Lib.hid hnt
      have x0 := boxed_below3 HX0.out hB
      have x1 := boxed_below3 HX1.out hB
      have x2 := boxed_below3 HX2.out hB
      have HD1 := Lib.hid ((hB.block D hDlt).trans HKD.out)
      have HD2 := Lib.hid hK2
      have HBB := Lib.hid (HBW.out.trans (hB.mono HBW.out.size))
      have HX02 := Lib.hid x0
      have HX12 := Lib.hid x1
      have HX22 := Lib.hid x2
      have c0 := x0.cell
      have c1 := x1.cell
      have c2 := x2.cell
      have f0 := x0.frozen
      have f1 := x1.frozen
      have f2 := x2.frozen
      have cx := hbx.cell
      have hD2w : w4.heap.size ≤ D2 := hD2
      have hxd : decide ((0 : Int) ≤ (x : Int)) = true := decide_eq_true (by omega)
      clear hgd hnt hbx hB hK2 x0 x1 x2 hpe hk hkx1
      gi_wp2_with fail
      refine wpIn_wide.2 ?_
      go_region
      gi_wp2_with fail
      have n01 : w.heap.size ≠ w.heap.size + 1 := by omega
      have n02 : w.heap.size ≠ w.heap.size + 1 + 1 := by omega
      have n12 : w.heap.size + 1 ≠ w.heap.size + 1 + 1 := by omega
      obtain ⟨w9, hw9⟩ : ∃ w9, (((W2.setCell ⟨w.heap.size, 0, none⟩ (.slice none 0 0)).setCell ⟨w.heap.size + 1, 0, none⟩ (.int .i64 (x : Int))).setCell ⟨w.heap.size + 1 + 1, 0, none⟩ (.int .i64 32)).drew = w9 := ⟨_, rfl⟩
      have hb9 : ∀ k, k ≠ w.heap.size → k ≠ w.heap.size + 1 → k ≠ w.heap.size + 1 + 1 → w9.heap[k]? = W2.heap[k]? := fun k h0 h1 h2 => by
        rw [← hw9]
        exact ((Below.heap_setCell _ _ _ k h2).trans (Below.heap_setCell _ _ _ k h1)).trans (Below.heap_setCell _ _ _ k h0)
      have z0 : Boxed w9 w.heap.size 32 (.slice none 0 0) := by rw [← hw9]; exact ((HX02.out.set _).other n01 _).other n02 _
      have z1 : Boxed w9 (w.heap.size + 1) 3 (.int .i64 (x : Int)) := by rw [← hw9]; exact ((HX12.out.other (fun e => n01 e.symm) _).set _).other n12 _
      have z2 : Boxed w9 (w.heap.size + 1 + 1) 25 (.int .i64 32) := by rw [← hw9]; exact ((HX22.out.other (fun e => n02 e.symm) _).other (fun e => n12 e.symm) _).set _
      have hB9 : Below w.heap.size w w9 := by
        rw [← hw9]
        have h := ((HBB.out.setCell (p := ⟨w.heap.size, 0, none⟩) (Nat.le_refl _) (.slice none 0 0)).setCell (p := ⟨w.heap.size + 1, 0, none⟩) (Nat.le_succ _) (.int .i64 (x : Int))).setCell (p := ⟨w.heap.size + 1 + 1, 0, none⟩) (by show w.heap.size ≤ w.heap.size + 1 + 1; omega) (.int .i64 32)
        exact ⟨h.os, h.tape, h.output, h.size, h.block⟩
      have hdA := (hb9 D2 (by omega) (by omega) (by omega)).trans HD2.out
      have hdB := (hb9 D (by omega) (by omega) (by omega)).trans HD1.out
      rw [hw9]
      clear hw9 hb9
      refine ⟨by simp, .inl ⟨_, _, rfl, run_takeDeferred hdA, ?_⟩⟩
      have hDD : D2 ≠ D := by omega
      have hd10 := (put_other hDD (.deferred none)).trans hdB
      refine ⟨by simp, .inl ⟨_, _, rfl, run_takeDeferred hd10, ?_⟩⟩
      have k0 := cell_kept (cell_kept z0.cell (grownBy_putObj' _ D2 (.deferred none)) (fun r e => by cases e; exact ⟨_, hdA, rfl⟩)) (grownBy_putObj' _ D (.deferred none)) (fun r e => by cases e; exact ⟨_, hd10, rfl⟩)
      have k1 := cell_kept (cell_kept z1.cell (grownBy_putObj' _ D2 (.deferred none)) (fun r e => by cases e; exact ⟨_, hdA, rfl⟩)) (grownBy_putObj' _ D (.deferred none)) (fun r e => by cases e; exact ⟨_, hd10, rfl⟩)
      have k2 := cell_kept (cell_kept z2.cell (grownBy_putObj' _ D2 (.deferred none)) (fun r e => by cases e; exact ⟨_, hdA, rfl⟩)) (grownBy_putObj' _ D (.deferred none)) (fun r e => by cases e; exact ⟨_, hd10, rfl⟩)
      refine ⟨.tuple #[.slice none 0 0, .int .i64 (x : Int), .int .i64 32], ?_, ⟨_, [], x, 32, rfl, .inr (.inl ⟨by rw [HNN.out]; exact hN4, x, xs, lineAt L x, HRD.out, lineAt_get (by rw [HNN.out]; exact hxN), HNT.out, rfl, rfl, rfl⟩), World.ownsRow_nil _ _ _ _⟩, (hB9.trans (belowK_b (w := w) (Nat.le_refl _) _ D2 _ _ (by omega) hdA rfl rfl)).trans (belowK_b (w := w) (Nat.le_refl _) _ D _ _ (by omega) hd10 rfl rfl)⟩
      simp [results, Tryd.f16, go_sem, k0, k1, k2]
  case hstop =>
    rintro D c pre W hD ⟨k, hk, rfl⟩ ⟨⟨rfl, y, hy, hy2⟩, ⟨⟨x0, x1⟩, x2⟩, hB⟩ hK
    have hN4 : 4096 < N := by have := List.mem_range.1 hy; omega
    gi_wp2_with fail
    refine ⟨by simp, .inl ⟨_, _, rfl, run_takeDeferred hK, ?_⟩⟩
    have c0 := cell_kept x0.cell (grownBy_putObj' _ D (.deferred none)) (fun r e => by cases e; exact ⟨_, hK, rfl⟩)
    have c1 := cell_kept x1.cell (grownBy_putObj' _ D (.deferred none)) (fun r e => by cases e; exact ⟨_, hK, rfl⟩)
    have c2 := cell_kept x2.cell (grownBy_putObj' _ D (.deferred none)) (fun r e => by cases e; exact ⟨_, hK, rfl⟩)
    refine ⟨.tuple #[.slice none 0 0, .int .i64 0, .int .i64 3], ?_, ⟨_, [], 0, 3, rfl, .inl ⟨by rw [HNN.out]; exact hN4, rfl, rfl, rfl⟩, World.ownsRow_nil _ _ _ _⟩, hB.trans (belowK_b (w := w) (Nat.le_refl _) _ D _ _ (by omega) hK rfl rfl)⟩
    simp [results, Tryd.f16, go_sem, c0, c1, c2]
end Go.Proofs.YtfpgalckmfdcmaaDoor
