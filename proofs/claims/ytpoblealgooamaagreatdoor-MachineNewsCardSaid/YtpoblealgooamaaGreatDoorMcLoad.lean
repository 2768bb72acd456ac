/- Load makes the object of a code that has instructions alone. Conditions: they are right, and there is room. -/
import Derived.Test.YtpoblealgooamaaGreatDoorMcNew
import Derived.Test.YtpoblealgooamaaGreatDoorIsaDec
import Derived.Test.YtpoblealgooamaaGreatDoorMemThree
import Derived.Deep.RegionHeld3
namespace Go.Proofs.YtpoblealgooamaaGreatDoor
open Go Go.RowKit Go.Proofs.YtpoblealgooamaaGreatDoor.IsaL
theorem mcb_one (w : World) (o : Obj) : Below w.heap.size w (w.alloc o) := (Below.refl _ w).alloc (Nat.le_refl _) o
theorem mcb_cell {w W : World} (h : Below w.heap.size w W) {g j : Nat} {v : Value} (hc : w.cell? ⟨g, j, none⟩ = some v) : W.cell? ⟨g, j, none⟩ = some v := (h.cell (p := ⟨g, j, none⟩) (World.block_lt_of_cell? w _ hc)).trans hc
/-- instructions, in a block of their own -/
abbrev I5 := Int × Int × Int × Int × Int
def InsR (w : World) (gi : Nat) (l : List I5) : Prop := ∀ k x, l[k]? = some x →
  w.cell? ⟨gi, k * 5, none⟩ = some (.int .i64 x.1) ∧ w.cell? ⟨gi, k * 5 + 1, none⟩ = some (.int .i64 x.2.1) ∧ w.cell? ⟨gi, k * 5 + 2, none⟩ = some (.int .i64 x.2.2.1) ∧ w.cell? ⟨gi, k * 5 + 3, none⟩ = some (.int .i64 x.2.2.2.1) ∧ w.cell? ⟨gi, k * 5 + 4, none⟩ = some (.int .i64 x.2.2.2.2)
theorem InsR.below {w w1 : World} {gi : Nat} {l : List I5} (h : InsR w gi l) (hb : Below w.heap.size w w1) : InsR w1 gi l := fun k x hx => by
  obtain ⟨a, b, c, d, e⟩ := h k x hx
  exact ⟨mcb_cell hb a, mcb_cell hb b, mcb_cell hb c, mcb_cell hb d, mcb_cell hb e⟩
def Okl (l : List I5) : Prop := ∀ x ∈ l, chkOf x.1 x.2.1 x.2.2.1 x.2.2.2.1 x.2.2.2.2 = 0
theorem check_ok {x : I5} (h : chkOf x.1 x.2.1 x.2.2.1 x.2.2.2.1 x.2.2.2.2 = 0) (w : World) (ho : Ops w) : Calls Tryz.prog 72 #[.agg #[.int .i64 x.1, .int .i64 x.2.1, .int .i64 x.2.2.1, .int .i64 x.2.2.2.1, .int .i64 x.2.2.2.2]] w fun e w' => e = .returned (.int .i64 0) ∧ Below w.heap.size w w' := by
  have := check_any x.1 x.2.1 x.2.2.1 x.2.2.2.1 x.2.2.2.2 w ho
  rwa [h] at this
set_option maxRecDepth 100000 in
set_option maxHeartbeats 8000000 in
theorem wordsOf_any {w : World} {gi : Nat} {l : List I5} (hr : InsR w gi l) (ho : Ops w) (hc : Okl l) (hl : l.length ≤ 1000) (cp : Nat) (hcp : l.length ≤ cp) (codes : Int) :
    Calls Tryz.prog 38 #[.agg #[.slice none 0 0, .slice (some ⟨gi, 0, none⟩) l.length cp], .int .i64 codes] w fun e w' => e = .returned (.tuple #[.int .i64 (1 + l.length), .int .i64 0]) ∧ Below w.heap.size w w' := by
  obtain ⟨n, hn⟩ : ∃ n, l.length = n := ⟨_, rfl⟩
  rw [hn] at hl hcp ⊢
  have HB0 := Lib.hid (mcb_one w (.cells #[.slice none 0 0, .slice (some ⟨gi, 0, none⟩) n cp] 70))
  obtain ⟨X, hX⟩ : ∃ X, w.alloc (.cells #[.slice none 0 0, .slice (some ⟨gi, 0, none⟩) n cp] 70) = X := ⟨_, rfl⟩
  have hblk := heap_alloc_new w (.cells #[.slice none 0 0, .slice (some ⟨gi, 0, none⟩) n cp] 70)
  rw [hX] at HB0 hblk
  have HX := Lib.hid hX
  have x0 : X.cell? ⟨w.heap.size, 0, none⟩ = some (.slice none 0 0) := mc_cell hblk 0
  have x1 : X.cell? ⟨w.heap.size, 1, none⟩ = some (.slice (some ⟨gi, 0, none⟩) n cp) := mc_cell hblk 1
  have HX1 := Lib.hid x1
  have HR := Lib.hid (hr.below HB0.out)
  have HO := Lib.hid (ops_below ho (Nat.le_refl _) HB0.out)
  have HC := Lib.hid hc
  have HN := Lib.hid hn
  clear hr ho hc hn hblk hX
  go_enter Tryz.func38, Tryz.ntmps38
  go_wp2_with fail
  rw [HX.out]
  go_loopw [6, 31] (fun v i wr => v = .int .i64 (1 + (n : Int)) ∧ i = .int .i64 0 ∧ wr = X) (fun _ _ _ => 0)
  case atStart => exact ⟨rfl, rfl, rfl⟩
  case round =>
    obtain ⟨rfl, rfl, hwr⟩ := hrel
    subst wr
    go_wp2_with fail
    go_loopw [72] (fun i wr => ∃ k : Nat, k ≤ n ∧ i = .int .i64 k ∧ Below X.heap.size X wr) (fun i _ => n - (intOf i).toNat)
    case atStart => exact ⟨0, Nat.zero_le _, rfl, Below.refl _ _⟩
    case round =>
      obtain ⟨k, hk, rfl, hb⟩ := hrel
      by_cases hlt : k < n
      · obtain ⟨x, hx⟩ : ∃ x, l[k]? = some x := ⟨_, List.getElem?_eq_getElem (by have := HN.out; omega)⟩
        obtain ⟨d0, d1, d2, d3, d4⟩ := (HR.out.below hb) k x hx
        have y1 := mcb_cell hb HX1.out
        have HB := Lib.hid hb
        have HCK := Lib.hid (fun Y (hY : Below wr.heap.size wr Y) => check_ok (HC.out x (List.mem_of_getElem? hx)) Y (ops_below (ops_below HO.out (Nat.le_refl _) hb) (Nat.le_refl _) hY))
        obtain ⟨o, a, b, c, m⟩ := x
        simp only at d0 d1 d2 d3 d4 HCK
        clear hb hx
        go_wp2_with fail
        refine (HCK.out _ (mcb_one wr _)).mono ?_
        rintro e w2 ⟨rfl, hb2⟩
        have HB2 := Lib.hid (HB.out.trans ((((mcb_one wr _).trans (hb2.mono (mcb_one wr _).size))).mono HB.out.size))
        clear hb2
        go_wp2_with fail
        go_roundw
        case rel => exact ⟨k + 1, hlt, by go_num, HB2.out⟩
        case measure => simp [intOf]; omega
      · obtain rfl : k = n := by omega
        have HB2 := Lib.hid (HB0.out.trans (hb.mono HB0.out.size))
        clear hb
        go_wp2_with fail
        go_ret2
        exact ⟨rfl, HB2.out⟩
set_option maxRecDepth 100000 in
theorem room_mc {w : World} {g b W : Nat} {F : Nat → Value} {R : Nat → Value} {now : List Ob} (hx : Bx w g F) (h0 : F 0 = .pointer (some ⟨b, 0, none⟩)) (m : Mem w b W 0 R now []) (z : WF W 0 now []) {u : Nat} (hu : used now = u) (need : Nat) (hn : need + u ≤ W) :
    Calls Tryz.prog 39 #[.pointer (some ⟨g, 0, none⟩), .int .i64 need] w fun e w' => e = .returned (.bool true) ∧ ∃ n, w' = w.drewN n := by
  have c0 := hx.cell (j := 0) (by omega)
  rw [h0] at c0
  obtain ⟨A, hA⟩ : ∃ A : Int, (W : Int) - u = A := ⟨_, rfl⟩
  have HF := Lib.hid (fun q => free_m (m.drewN q) z hu A hA)
  have d0 : decide (A < (need : Int)) = false := decide_eq_false (by omega)
  have d1 : decide ((need : Int) ≤ A) = true := decide_eq_true (by omega)
  have HC := Lib.hid c0
  clear hx h0 m z hu hA
  go_enter Tryz.func39, Tryz.ntmps39
  go_wp2_with fail
  refine (HF.out 0).mono ?_
  rintro e w1 ⟨rfl, q, hq⟩
  have HQ := Lib.hid (show w1 = w.drewN q from by rw [hq]; rfl)
  have c1 : w1.cell? ⟨g, 0, none⟩ = some (.pointer (some ⟨b, 0, none⟩)) := by rw [HQ.out]; exact HC.out
  have HF1 := Lib.hid (show Calls _ _ _ w1 _ from by have := HF.out q; rw [← HQ.out] at this; exact this)
  clear hq
  go_wp2_with fail
  refine HF1.out.mono ?_
  rintro e w2 ⟨rfl, q2, hq2⟩
  have HQ2 := Lib.hid (show w2 = w.drewN (q + q2) from by rw [hq2, HQ.out, World.drewN_drewN])
  clear hq2
  go_wp2_with fail
  go_ret
  exact ⟨rfl, _, HQ2.out⟩
/-- the object of a code of which k instructions are laid -/
def obK (wl : List Nat) (k : Nat) : Ob := ⟨5, 0, wl.take k ++ List.replicate (wl.length - k) 0, 0⟩
theorem obK_zero (wl : List Nat) : obK wl 0 = newOb 5 wl.length 0 := by
  unfold obK newOb
  simp
theorem obK_len (wl : List Nat) {k : Nat} (hk : k ≤ wl.length) : (obK wl k).ws.length = wl.length := by simp [obK]; omega
theorem obK_set (wl : List Nat) {k x : Nat} (hx : wl[k]? = some x) : ({ obK wl k with ws := (obK wl k).ws.set k x } : Ob) = obK wl (k + 1) := by
  have hk := (List.getElem?_eq_some_iff.1 hx).1
  unfold obK
  show (⟨5, 0, (wl.take k ++ List.replicate (wl.length - k) 0).set k x, 0⟩ : Ob) = ⟨5, 0, wl.take (k + 1) ++ List.replicate (wl.length - (k + 1)) 0, 0⟩
  congr 1
  apply List.ext_getElem?
  intro j
  rw [List.getElem?_set]
  have hl : (wl.take k ++ List.replicate (wl.length - k) 0).length = wl.length := by simp; omega
  by_cases hj : k = j
  · subst hj
    rw [if_pos rfl, if_pos (by rw [hl]; exact hk), List.getElem?_append_left (by simp; omega), List.getElem?_take, if_pos (by omega), hx]
  · rw [if_neg hj]
    rcases Nat.lt_or_gt_of_ne hj with h | h
    · rw [List.getElem?_append_right (by simp; omega), List.getElem?_append_right (by simp; omega), List.getElem?_replicate, List.getElem?_replicate]
      simp only [List.length_take]
      by_cases h2 : j < wl.length
      · rw [if_pos (by omega), if_pos (by omega)]
      · rw [if_neg (by omega), if_neg (by omega)]
    · rw [List.getElem?_append_left (by simp; omega), List.getElem?_append_left (by simp; omega), List.getElem?_take, List.getElem?_take, if_pos h, if_pos (by omega)]
theorem idx_one (o : Ob) (W : Nat) : idxAt [o] 0 W 1 = some 0 := by rfl
/-- while a code's object is laid -/
structure MkS (w0 : World) (g b W : Nat) (F : Nat → Value) (gm gc gi n cp q : Nat) (l : List I5) (wl : List Nat) (k : Nat) (wr : World) : Prop where
  bx : Bx wr g F
  mm : ∃ R, Mem wr b W 0 R [obK wl k] [] ∧ (∀ i, Own b R i → w0.heap.size ≤ i ∧ i ≠ g ∧ i ≠ gm ∧ i ≠ gc ∧ i ≠ gi ∧ i < q)
  z : WF W 0 [obK wl k] []
  base : Below w0.heap.size w0 wr
  cm : wr.cell? ⟨gm, 0, none⟩ = some (.int .i64 1)
  cc0 : wr.cell? ⟨gc, 0, none⟩ = some (.slice none 0 0)
  cc1 : wr.cell? ⟨gc, 1, none⟩ = some (.slice (some ⟨gi, 0, none⟩) n cp)
  ci : InsR wr gi l
section
variable {w0 wr w1 : World} {g b W : Nat} {F : Nat → Value} {gm gc gi n cp q k : Nat} {l : List I5} {wl : List Nat}
theorem MkS.below (h : MkS w0 g b W F gm gc gi n cp q l wl k wr) (hb : Below wr.heap.size wr w1) : MkS w0 g b W F gm gc gi n cp q l wl k w1 := by
  obtain ⟨R, m, ho⟩ := h.mm
  exact ⟨h.bx.below hb, ⟨R, m.below hb, ho⟩, h.z, h.base.trans (hb.mono h.base.size), mcb_cell hb h.cm, mcb_cell hb h.cc0, mcb_cell hb h.cc1, h.ci.below hb⟩
theorem InsR.fr {O : Nat → Prop} {w w1 : World} (h : InsR w gi l) (hf : Fr O w w1) (hO : ¬ O gi) : InsR w1 gi l := fun k x hx => by
  obtain ⟨a, b, c, d, e⟩ := h k x hx
  exact ⟨hf.cell_some a hO, hf.cell_some b hO, hf.cell_some c hO, hf.cell_some d hO, hf.cell_some e hO⟩
theorem MkS.store (h : MkS w0 g b W F gm gc gi n cp q l wl k wr) {x : Nat} (hx : wl[k]? = some x) (hx64 : x < 18446744073709551616) :
    Calls Tryz.prog 68 #[.pointer (some ⟨b, 0, none⟩), .int .i64 1, .int .i64 (k : Int), .int .u64 (x : Int)] wr fun e w' => (∃ v, e = .returned (.int .i64 v)) ∧ MkS w0 g b W F gm gc gi n cp q l wl (k + 1) w' ∧ (∀ j, q ≤ j → j < wr.heap.size → w'.heap[j]? = wr.heap[j]?) := by
  obtain ⟨R, m, ho⟩ := h.mm
  have hk := (List.getElem?_eq_some_iff.1 hx).1
  refine (storeX_any (MX.of (s := ⟨[obK wl k], []⟩) m h.z) 1 (by decide) k x hx64).mono ?_
  rintro e w' ⟨hq, mx, hf⟩
  have hs : storeX 0 W ⟨[obK wl k], []⟩ 1 k x = ⟨[obK wl (k + 1)], []⟩ := by
    unfold storeX
    simp only [idx_one]
    rw [if_pos (by show k < (obK wl k).ws.length; rw [obK_len wl (by omega)]; exact hk)]
    show St.mk [{ obK wl k with ws := (obK wl k).ws.set k x }] [] = _
    rw [obK_set wl hx]
  rw [hs] at mx
  exact ⟨hq, ⟨h.bx.fr hf (fun q => (ho _ q).2.1 rfl), ⟨R, mx.m, ho⟩, mx.z, h.base.trans (hf.below h.base.size (fun i hi => (ho i hi).1)), hf.cell_some h.cm (fun q => (ho _ q).2.2.1 rfl), hf.cell_some h.cc0 (fun q => (ho _ q).2.2.2.1 rfl), hf.cell_some h.cc1 (fun q => (ho _ q).2.2.2.1 rfl), h.ci.fr hf (fun q => (ho _ q).2.2.2.2.1 rfl)⟩, fun j hj hl => hf.block j hl (fun hi => by have := (ho j hi).2.2.2.2.2; omega)⟩
end
theorem mk_int1 : ∃ cs : Array Value, cs[0]? = some (.int .i64 0) ∧ ∀ w : World, (Instr.makeSlice 106 (.int .i64 1) (.int .i64 1)).run Tryz.prog w = .ok (.slice (some ⟨w.heap.size, 0, none⟩) 1 1) (w.alloc (.cells cs 3)) := ⟨#[.int .i64 0], rfl, fun w => by kernel_rfl⟩
set_option maxRecDepth 100000 in
set_option maxHeartbeats 16000000 in
theorem make_mc {w0 w : World} {g b W gc gi n cp cc : Nat} {F : Nat → Value} {R : Nat → Value} {l : List I5} {wl : List Nat} (hb0 : Below w0.heap.size w0 w) (hops : Ops w0) (hx : Bx w g F) (h0 : F 0 = .pointer (some ⟨b, 0, none⟩)) (hg0 : w0.heap.size ≤ g) (m : Mem w b W 0 R [] []) (z : WF W 0 [] []) (hO : ∀ i, Own b R i → w0.heap.size ≤ i ∧ i ≠ g ∧ i ≠ gc ∧ i ≠ gi)
    (hc0 : w.cell? ⟨gc, 0, none⟩ = some (.slice none 0 0)) (hc1 : w.cell? ⟨gc, 1, none⟩ = some (.slice (some ⟨gi, 0, none⟩) n cp)) (hr : InsR w gi l) (hn : l.length = n) (hwn : wl.length = n) (hn1 : 1 ≤ n) (hn2 : n + 1 ≤ W) (hn3 : n ≤ 40) (hcp : n ≤ cp) (hW : W ≤ 65536)
    (hw : ∀ (k : Nat) (x : I5), l[k]? = some x → ∃ y, wl[k]? = some y ∧ y < 18446744073709551616 ∧ ∀ Y, Ops Y → Calls Tryz.prog 76 #[.agg #[.int .i64 x.1, .int .i64 x.2.1, .int .i64 x.2.2.1, .int .i64 x.2.2.2.1, .int .i64 x.2.2.2.2]] Y fun e w' => e = .returned (.tuple #[.int .u64 (y : Int), .int .i64 0]) ∧ Below Y.heap.size Y w') :
    Calls Tryz.prog 40 #[.pointer (some ⟨g, 0, none⟩), .slice (some ⟨gc, 0, none⟩) 1 cc] w fun e w' => (∃ v, e = .returned v) ∧ Bx w' g (mup F 1043 (.int .u64 2)) ∧ (∃ R', Mem w' b W 0 R' [obK wl n] [] ∧ ∀ i, Own b R' i → w0.heap.size ≤ i ∧ i ≠ g) ∧ WF W 0 [obK wl n] [] ∧ Below w0.heap.size w0 w' := by
  obtain ⟨cs, hcs, hmk⟩ := mk_int1
  have hgl := hx.lt
  have hcl := World.block_lt_of_cell? w _ hc0
  have hil : gi < w.heap.size := by
    obtain ⟨x, hx⟩ : ∃ x, l[0]? = some x := ⟨_, List.getElem?_eq_getElem (by omega)⟩
    exact World.block_lt_of_cell? w _ (hr 0 x hx).1
  have hbX := mcb_one w (.cells cs 3)
  have hnX := heap_alloc_new w (.cells cs 3)
  obtain ⟨X, hX⟩ : ∃ X, w.alloc (.cells cs 3) = X := ⟨_, rfl⟩
  obtain ⟨gm, hgm⟩ : ∃ gm, w.heap.size = gm := ⟨_, rfl⟩
  rw [hX] at hbX hnX
  rw [hgm] at hnX hgl hcl hil
  have HX := Lib.hid (And.intro hX hgm)
  have HBX := Lib.hid (Lib.hid hbX)
  have hm := m.below hbX
  have hxX := hx.below hbX
  have hO2 : ∀ i, Own b R i → w0.heap.size ≤ i ∧ i ≠ g ∧ i ≠ gm ∧ i ≠ gc ∧ i ≠ gi := fun i hi => by
    have h1 := hO i hi
    have h2 := m.own_lt i hi
    omega
  have HB0 := Lib.hid (hb0.trans (hbX.mono hb0.size))
  have hgX : gm < X.heap.size := (Array.getElem?_eq_some_iff.1 hnX).1
  have cm : X.cell? ⟨gm, 0, none⟩ = some (.int .i64 0) := (mc_cell hnX 0).trans hcs
  have zm : X.frozen? ⟨gm, 0, none⟩ = false := mc_froz hnX 0
  have c0 := mcb_cell hbX hc0
  have c1 := mcb_cell hbX hc1
  have x0 := hxX.cell (j := 0) (by omega)
  rw [h0] at x0
  have HALL := Lib.hid (And.intro hxX (And.intro hm (And.intro hO2 (And.intro (hr.below hbX) (And.intro cm (And.intro zm (And.intro c0 (And.intro c1 x0))))))))
  have HW := Lib.hid hw
  have HO := Lib.hid hops
  have HZ := Lib.hid z
  have HN := Lib.hid (And.intro hn hwn)
  have H0 := Lib.hid h0
  have hgw0 : w0.heap.size ≤ gm := by have := hb0.size; omega
  clear hb0 hops hx h0 m z hO hc0 hc1 hr hn hwn hw hbX hnX hX hm hxX hO2 cm zm c0 c1 x0 hcs hgm
  go_enter Tryz.func40, Tryz.ntmps40
  go_wp2_with fail
  rw [HX.out.1, HX.out.2]
  clear hmk
  go_loopw [20] (fun i wr => ∃ k : Nat, k ≤ 1 ∧ i = .int .i64 k ∧ (k = 0 → wr = X) ∧ (k = 1 → ∃ q, q ≤ wr.heap.size ∧ MkS w0 g b W F gm gc gi n cp q l wl 0 wr)) (fun i _ => 1 - (intOf i).toNat)
  case atStart => exact ⟨0, by omega, rfl, fun _ => rfl, fun q => by cases q⟩
  case round =>
    obtain ⟨k, hk, rfl, hk0, hk1⟩ := hrel
    rcases (show k = 0 ∨ k = 1 by omega) with rfl | rfl
    · have hwr := hk0 rfl
      subst wr
      have c0 := HALL.out.2.2.2.2.2.2.1
      have c1 := HALL.out.2.2.2.2.2.2.2.1
      clear hk0 hk1
      go_wp2_with fail
      have hb2 := mcb_one X (.cells #[.slice none 0 0, .slice (some ⟨gi, 0, none⟩) n cp] 70)
      have hn2' := heap_alloc_new X (.cells #[.slice none 0 0, .slice (some ⟨gi, 0, none⟩) n cp] 70)
      obtain ⟨X2, hX2⟩ : ∃ X2, X.alloc (.cells #[.slice none 0 0, .slice (some ⟨gi, 0, none⟩) n cp] 70) = X2 := ⟨_, rfl⟩
      obtain ⟨t6, ht6⟩ : ∃ t, X.heap.size = t := ⟨_, rfl⟩
      rw [hX2] at hb2 hn2' ⊢
      rw [ht6] at hn2' hgX ⊢
      have HT6 := Lib.hid ht6
      have HB2 := Lib.hid (Lib.hid hb2)
      have hlt6 : t6 < X2.heap.size := (Array.getElem?_eq_some_iff.1 hn2').1
      have y0 : X2.cell? ⟨t6, 0, none⟩ = some (.slice none 0 0) := mc_cell hn2' 0
      have y1 : X2.cell? ⟨t6, 1, none⟩ = some (.slice (some ⟨gi, 0, none⟩) n cp) := mc_cell hn2' 1
      have x0 := mcb_cell hb2 HALL.out.2.2.2.2.2.2.2.2
      have cm := mcb_cell hb2 HALL.out.2.2.2.2.1
      have hO3 : ∀ i, Own b R i → w0.heap.size ≤ i ∧ i ≠ g ∧ i ≠ gm ∧ i ≠ gc ∧ i ≠ gi ∧ i ≠ t6 := fun i hi => by
        have h1 := HALL.out.2.2.1 i hi
        have h2 := HALL.out.2.1.own_lt i hi
        have h3 := HT6.out
        omega
      have hgt : g ≠ t6 := by have := HALL.out.1.lt; have := HT6.out; omega
      have hgm2 : gm ≠ g ∧ gm ≠ t6 := by omega
      have KS := Lib.hid (fun (Y : World) (hY : Fr (fun i => Own b R i ∨ i = gm) X2 Y) => (⟨hY.cell_some x0 (fun q => q.elim (fun q => (hO3 _ q).2.1 rfl) (fun q => hgm2.1 q.symm)), hY.cell_some y0 (fun q => q.elim (fun q => (hO3 _ q).2.2.2.2.2 rfl) (fun q => hgm2.2 q.symm)), hY.cell_some y1 (fun q => q.elim (fun q => (hO3 _ q).2.2.2.2.2 rfl) (fun q => hgm2.2 q.symm))⟩ : Y.cell? ⟨g, 0, none⟩ = some (.pointer (some ⟨b, 0, none⟩)) ∧ Y.cell? ⟨t6, 0, none⟩ = some (.slice none 0 0) ∧ Y.cell? ⟨t6, 1, none⟩ = some (.slice (some ⟨gi, 0, none⟩) n cp)))
      have hm2 := HALL.out.2.1.below hb2
      have HAL := Lib.hid (show Calls Tryz.prog 74 #[.pointer (some ⟨b, 0, none⟩), .int .i64 5, .int .i64 (n : Int), .int .i64 0] X2.drew _ from alloc_to (hm2.drewN 1) HZ.out 5 n 0 5 n 0 1 rfl rfl rfl rfl (right_yes (by omega)) (by show 0 + n + 1 ≤ W; omega))
      have hdS := KS.out X2 (Fr.refl _ _)
      have hwrp : IntKind.i64.wrap (n : Int) = (n : Int) := by rw [IntKind.wrap_i64]; omega
      have HO3 := Lib.hid hO3
      have HGM := Lib.hid cm
      have zm : X2.frozen? ⟨gm, 0, none⟩ = false := (hb2.frozen (p := ⟨gm, 0, none⟩) (by have := HT6.out; show gm < X.heap.size; omega)).trans HALL.out.2.2.2.2.2.1
      have HZM := Lib.hid zm
      clear hX2 ht6 hn2' hb2 y0 y1 x0 cm hO3 hm2 c0 c1 zm
      go_region_held3 (fun Y => Y.cell? ⟨g, 0, none⟩ = some (.pointer (some ⟨b, 0, none⟩)) ∧ Y.cell? ⟨t6, 0, none⟩ = some (.slice none 0 0) ∧ Y.cell? ⟨t6, 1, none⟩ = some (.slice (some ⟨gi, 0, none⟩) n cp))
        (first | (with_reducible assumption) | (with_reducible exact KS.out _ ((Fr.refl _ X2).drew)) | (with_reducible exact KS.out _ (by with_reducible assumption)) | exact KS.out _ ((show Fr (fun i => Own b R i ∨ i = gm) X2 _ by with_reducible assumption).setCell (p := ⟨gm, 0, none⟩) (.inl (.inr rfl)) _))
        (first | (go_at_call 74; (with_reducible refine HAL.out.mono ?_); rintro e w3 ⟨rfl, R3, hm3, ho3, hf3⟩; have hF3 : Fr (fun i => Own b R i ∨ i = gm) X2 w3 := ((Fr.refl _ X2).drew).trans hf3 (fun i hi => .inl (.inl hi)); have cm3 : w3.cell? ⟨gm, 0, none⟩ = some (.int .i64 0) := hf3.cell_some HGM.out (fun q => (HO3.out _ q).2.2.1 rfl); have zm3 : w3.frozen? ⟨gm, 0, none⟩ = false := (hf3.frozen (p := ⟨gm, 0, none⟩) (by show gm < X2.heap.size; omega) (fun q => (HO3.out _ q).2.2.1 rfl)).trans HZM.out))
      have HMK := Lib.hid (show ∃ q, q ≤ (w3.setCell ⟨gm, 0, none⟩ (.int .i64 1)).heap.size ∧ MkS w0 g b W F gm gc gi n cp q l wl 0 (w3.setCell ⟨gm, 0, none⟩ (.int .i64 1)) from by
        have hfs : Fr (· = gm) w3 (w3.setCell ⟨gm, 0, none⟩ (.int .i64 1)) := (Fr.refl (· = gm) w3).setCell (p := ⟨gm, 0, none⟩) (.inl rfl) (.int .i64 1)
        have hsz : (w3.setCell ⟨gm, 0, none⟩ (.int .i64 1)).heap.size = w3.heap.size := by simp [World.setCell]
        have hX2s : X.heap.size ≤ X2.heap.size := HB2.out.out.size
        have h6 := HT6.out
        have hox : ∀ i, Own b R3 i → w0.heap.size ≤ i ∧ i ≠ g ∧ i ≠ gm ∧ i ≠ gc ∧ i ≠ gi := fun i hi => by
          rcases ho3 i hi with q | q
          · have := HO3.out i q; omega
          · have q : X2.heap.size ≤ i := q
            omega
        have hbx : Bx w3 g F := (HALL.out.1.below HB2.out.out).fr hF3 (fun q => q.elim (fun q => (HO3.out _ q).2.1 rfl) (fun q => hgm2.1 q.symm))
        have hbz : Below w0.heap.size w0 w3 := (HB0.out.trans (HB2.out.out.mono HB0.out.size)).trans (hF3.below (HB0.out.trans (HB2.out.out.mono HB0.out.size)).size (fun i hi => hi.elim (fun q => (HO3.out _ q).1) (fun q => by rw [q]; exact hgw0)))
        have hz3 : WF W 0 [obK wl 0] [] := by
          have := wf_alloc (k := 5) (s := n) (t := 0) HZ.out (right_yes (by omega)) (by show 0 + n + 1 ≤ W; omega)
          rw [obK_zero, HN.out.2]; exact this
        have hm4 : Mem w3 b W 0 R3 [obK wl 0] [] := by rw [obK_zero, HN.out.2]; exact hm3
        have hn0 : ∀ {j : Nat}, j < gm → ¬ (Own b R j ∨ j = gm) → (w3.setCell ⟨gm, 0, none⟩ (.int .i64 1)).heap[j]? = X2.heap[j]? := fun {j} hj hq => (hfs.block j (by have := hF3.size; omega) (by omega)).trans (hF3.block j (by omega) hq)
        refine ⟨w3.heap.size, by omega, hbx.fr hfs (by omega), ⟨R3, hm4.kept hfs (fun i hi e => (hox i hi).2.2.1 e), fun i hi => ?_⟩, hz3, hbz.setCell (p := ⟨gm, 0, none⟩) hgw0 _, World.cell?_setCell_same' w3 ⟨gm, 0, none⟩ _ (by rw [cm3]; rfl), ?_, ?_, ?_⟩
        · have h1 := hox i hi
          have h2 := hm3.own_lt i hi
          omega
        · exact (hfs.cell_some (hF3.cell_some (mcb_cell HB2.out.out HALL.out.2.2.2.2.2.2.1) (fun q => q.elim (fun q => (HO3.out _ q).2.2.2.1 rfl) (fun q => absurd q (by show ¬ gc = gm; omega)))) (by show ¬ gc = gm; omega))
        · exact (hfs.cell_some (hF3.cell_some (mcb_cell HB2.out.out HALL.out.2.2.2.2.2.2.2.1) (fun q => q.elim (fun q => (HO3.out _ q).2.2.2.1 rfl) (fun q => absurd q (by show ¬ gc = gm; omega)))) (by show ¬ gc = gm; omega))
        · exact ((HALL.out.2.2.2.1.below HB2.out.out).fr hF3 (fun q => q.elim (fun q => (HO3.out _ q).2.2.2.2.1 rfl) (by omega))).fr hfs (by omega))
      clear hm3 ho3 hf3 hF3 cm3 zm3 hdS
      go_wp2_with fail
      go_roundw
      case rel => exact ⟨1, by omega, by go_num, fun q => (by cases q), fun _ => HMK.out⟩
      case measure => simp [intOf]
    · obtain ⟨q, hq, hM⟩ := hk1 rfl
      have HM := Lib.hid (And.intro hq hM)
      clear hk0 hk1 hq hM
      go_wp2_with fail
      go_loopw [49] (fun i wx => ∃ k : Nat, k ≤ 1 ∧ i = .int .i64 k ∧ ∃ q, q ≤ wx.heap.size ∧ (k = 0 → MkS w0 g b W F gm gc gi n cp q l wl 0 wx) ∧ (k = 1 → MkS w0 g b W F gm gc gi n cp q l wl n wx)) (fun i _ => 1 - (intOf i).toNat)
      case atStart => exact ⟨0, by omega, rfl, q, HM.out.1, fun _ => HM.out.2, fun q => (by cases q)⟩
      case round =>
        obtain ⟨k, hk, rfl, q, hq, hk0, hk1⟩ := hrel
        rcases (show k = 0 ∨ k = 1 by omega) with rfl | rfl
        · have hM := hk0 rfl
          have c0 := hM.cc0
          have c1 := hM.cc1
          have HM2 := Lib.hid (And.intro hq hM)
          clear hk0 hk1 hM hq
          go_wp2_with fail
          have hb2 := mcb_one wr (.cells #[.slice none 0 0, .slice (some ⟨gi, 0, none⟩) n cp] 70)
          have hn2' := heap_alloc_new wr (.cells #[.slice none 0 0, .slice (some ⟨gi, 0, none⟩) n cp] 70)
          obtain ⟨Y2, hY2⟩ : ∃ Y2, wr.alloc (.cells #[.slice none 0 0, .slice (some ⟨gi, 0, none⟩) n cp] 70) = Y2 := ⟨_, rfl⟩
          obtain ⟨t8, ht8⟩ : ∃ t, wr.heap.size = t := ⟨_, rfl⟩
          have hq8 := HM2.out.1
          have hMY := HM2.out.2.below hb2
          rw [hY2] at hb2 hn2' hMY ⊢
          rw [ht8] at hn2' hq8 ⊢
          have y0 : Y2.cell? ⟨t8, 0, none⟩ = some (.slice none 0 0) := mc_cell hn2' 0
          have y1 : Y2.cell? ⟨t8, 1, none⟩ = some (.slice (some ⟨gi, 0, none⟩) n cp) := mc_cell hn2' 1
          have hlt8 : t8 < Y2.heap.size := (Array.getElem?_eq_some_iff.1 hn2').1
          have HY := Lib.hid (And.intro hMY (And.intro y0 y1))
          have HY1 := Lib.hid y1
          clear hY2 ht8 hn2' hb2 hMY c0 c1 y0
          go_loopw [57] (fun i wx => i = .int .i64 0 ∧ wx = Y2) (fun _ _ => 0)
          case atStart => exact ⟨rfl, rfl⟩
          case round =>
            obtain ⟨rfl, hwx⟩ := hrel
            subst wr
            go_wp2_with fail
            go_loopw [80] (fun i wx => ∃ k : Nat, k ≤ n ∧ i = .int .i64 k ∧ MkS w0 g b W F gm gc gi n cp q l wl k wx ∧ t8 < wx.heap.size ∧ wx.cell? ⟨t8, 0, none⟩ = some (.slice none 0 0)) (fun i _ => n - (intOf i).toNat)
            case atStart => exact ⟨0, Nat.zero_le _, rfl, HY.out.1, hlt8, HY.out.2.1⟩
            case round =>
              obtain ⟨k, hk, rfl, hM, hlt, z0⟩ := hrel
              by_cases hkn : k < n
              · obtain ⟨x, hx⟩ : ∃ x, l[k]? = some x := ⟨_, List.getElem?_eq_getElem (by have := HN.out; omega)⟩
                obtain ⟨d0, d1, d2, d3, d4⟩ := hM.ci k x hx
                obtain ⟨y, hy, hy64, hen⟩ := HW.out k x hx
                obtain ⟨xo, xa, xb, xc, xn⟩ := x
                simp only at d0 d1 d2 d3 d4 hen
                have hb3 := mcb_one wr (.cells #[.int .i64 xo, .int .i64 xa, .int .i64 xb, .int .i64 xc, .int .i64 xn] 66)
                have HM3 := Lib.hid (And.intro hM (And.intro hlt z0))
                have HEN := Lib.hid (hen (wr.alloc (.cells #[.int .i64 xo, .int .i64 xa, .int .i64 xb, .int .i64 xc, .int .i64 xn] 66)) (ops_below HO.out (Nat.le_refl _) (hM.base.trans (hb3.mono hM.base.size))))
                have HYY := Lib.hid (And.intro hy hy64)
                clear hM hx hy hen hb3 z0
                go_wp2_with fail
                refine HEN.out.mono ?_
                rintro e w4 ⟨rfl, hb4⟩
                have hb34 := (mcb_one wr (.cells #[.int .i64 xo, .int .i64 xa, .int .i64 xb, .int .i64 xc, .int .i64 xn] 66)).trans (hb4.mono (mcb_one wr _).size)
                have hM4 := HM3.out.1.below hb34
                have z4 := mcb_cell hb34 HM3.out.2.2
                have hlt4 : t8 < w4.heap.size := Nat.lt_of_lt_of_le hlt hb34.size
                have x0 := hM4.bx.cell (j := 0) (by omega)
                rw [H0.out] at x0
                have m4 := hM4.cm
                have HM4 := Lib.hid hM4
                have HST := Lib.hid ((hM4.below (Below.refl _ _).drew).store HYY.out.1 HYY.out.2)
                have hwk : IntKind.i64.wrap (k : Int) = (k : Int) := by rw [IntKind.wrap_i64]; omega
                have hd : w4.cell? ⟨g, 0, none⟩ = some (.pointer (some ⟨b, 0, none⟩)) ∧ w4.cell? ⟨gm, 0, none⟩ = some (.int .i64 1) ∧ w4.cell? ⟨t8, 0, none⟩ = some (.slice none 0 0) := ⟨x0, m4, z4⟩
                clear hb4 hb34 hM4 x0 m4 d0 d1 d2 d3 d4
                go_wp2_with fail
                go_region_held3 (fun Y => Y.cell? ⟨g, 0, none⟩ = some (.pointer (some ⟨b, 0, none⟩)) ∧ Y.cell? ⟨gm, 0, none⟩ = some (.int .i64 1) ∧ Y.cell? ⟨t8, 0, none⟩ = some (.slice none 0 0))
                  (first | (with_reducible assumption) | exact hd)
                  (first | (go_at_call 68; (with_reducible refine HST.out.mono ?_); rintro e w5 ⟨⟨v, rfl⟩, hM5, hkp⟩; have x5 := hM5.bx.cell (j := 0) (by omega); rw [H0.out] at x5; have hz5 : w5.cell? ⟨t8, 0, none⟩ = some (.slice none 0 0) := (World.cell?_of_block (hkp t8 hq8 hlt4)).trans hd.2.2; have hd5 := And.intro x5 (And.intro hM5.cm hz5)))
                have HM5 := Lib.hid (And.intro hM5 (And.intro (show t8 < w5.heap.size from World.block_lt_of_cell? w5 _ hz5) hz5))
                clear hM5 hkp x5 hz5 hd5 hd z4
                go_wp2_with fail
                go_roundw
                case rel => first | (refine ⟨_, _, _, _, _, _, _, _, _, _, _, _, _, _, _, _, _, _, _, _, _, _, _, _, _, _, _, _, _, _, ?_, rfl⟩; exact ⟨k + 1, hkn, by go_num, HM5.out.1, HM5.out.2.1, HM5.out.2.2⟩) | (refine ⟨_, _, _, _, _, _, _, _, _, _, _, _, _, _, _, _, _, _, _, _, _, _, _, _, _, _, _, _, _, ?_, rfl⟩; exact ⟨k + 1, hkn, by go_num, HM5.out.1, HM5.out.2.1, HM5.out.2.2⟩) | (refine ⟨_, _, _, _, _, _, _, _, _, _, _, _, _, _, _, _, _, _, _, _, _, _, _, _, _, _, _, _, _, _, _, ?_, rfl⟩; exact ⟨k + 1, hkn, by go_num, HM5.out.1, HM5.out.2.1, HM5.out.2.2⟩) | (refine ⟨_, _, _, _, _, _, _, _, _, _, _, _, _, _, _, _, _, _, _, _, _, _, _, _, _, _, _, _, ?_, rfl⟩; exact ⟨k + 1, hkn, by go_num, HM5.out.1, HM5.out.2.1, HM5.out.2.2⟩) | (refine ⟨_, _, _, _, _, _, _, _, _, _, _, _, _, _, _, _, _, _, _, _, _, _, _, _, _, _, _, _, _, _, _, _, ?_, rfl⟩; exact ⟨k + 1, hkn, by go_num, HM5.out.1, HM5.out.2.1, HM5.out.2.2⟩) | (refine ⟨_, _, _, _, _, _, _, _, _, _, _, _, _, _, _, _, _, _, _, _, _, _, _, _, _, _, _, ?_, rfl⟩; exact ⟨k + 1, hkn, by go_num, HM5.out.1, HM5.out.2.1, HM5.out.2.2⟩) | (refine ⟨_, _, _, _, _, _, _, _, _, _, _, _, _, _, _, _, _, _, _, _, _, _, _, _, _, _, _, _, _, _, _, _, _, ?_, rfl⟩; exact ⟨k + 1, hkn, by go_num, HM5.out.1, HM5.out.2.1, HM5.out.2.2⟩)
                case measure => simp [intOf]; omega
              · obtain rfl : k = n := by omega
                have HM6 := Lib.hid hM
                have hq6 : q ≤ wr.heap.size := by omega
                clear hM z0
                go_wp2_with fail
                go_roundw
                case rel => exact ⟨1, by omega, by go_num, q, hq6, fun q => (by cases q), fun _ => HM6.out⟩
                case measure => simp [intOf]
        · have hM := hk1 rfl
          have cm := hM.cm
          have c43 := hM.bx.cell (j := 1043) (by omega)
          have z43 := hM.bx.frozen 1043
          have HP := Lib.hid (fun Y => show Calls Tryz.prog 77 #[.int .i64 1] Y (fun e w' => e = .returned (.int .u64 2) ∧ Y = w') from (ptr_any 1 Y).mono fun e w' ⟨h1, h2⟩ => ⟨by rw [h1]; rfl, h2⟩)
          have HMF := Lib.hid (show Bx (wr.setCell ⟨g, 1043, none⟩ (.int .u64 2)) g (mup F 1043 (.int .u64 2)) ∧ (∃ R', Mem (wr.setCell ⟨g, 1043, none⟩ (.int .u64 2)) b W 0 R' [obK wl n] [] ∧ ∀ i, Own b R' i → w0.heap.size ≤ i ∧ i ≠ g) ∧ WF W 0 [obK wl n] [] ∧ Below w0.heap.size w0 (wr.setCell ⟨g, 1043, none⟩ (.int .u64 2)) from by
            obtain ⟨R', m', ho'⟩ := hM.mm
            refine ⟨hM.bx.set 1043 _, ⟨R', m'.kept ((Fr.refl (· = g) wr).setCell (p := ⟨g, 1043, none⟩) (.inl rfl) _) (fun i hi e => (ho' i hi).2.1 e), fun i hi => ⟨(ho' i hi).1, (ho' i hi).2.1⟩⟩, hM.z, hM.base.setCell (p := ⟨g, 1043, none⟩) hg0 _⟩)
          clear hk0 hk1 hM
          go_wp2_with (go_at_call 77; refine (HP.out _).mono ?_; rintro e w' ⟨rfl, hw'⟩; subst w')
          refine bodyPost_end (results_none rfl _ _ _) rfl ?_
          exact ⟨⟨_, rfl⟩, HMF.out⟩
end Go.Proofs.YtpoblealgooamaaGreatDoor
