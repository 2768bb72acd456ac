/- The contract of gc's Collect, as a plain function of the memory. Conditions: the memory lies as Mem says; the roots are words that are none of the memory's own. -/
import Derived.Test.YtjdhjehnofediaaGcX
import Derived.Maps.OwnIn
import Derived.Test.YtjdhjehnofediaaRegRound
namespace Go.Proofs.Ytjdhjehnofediaa
open Go Go.RowKit Go.Shelf
attribute [local go_sem] Oper.semAt_some
theorem infoIc : (Try.prog.info? 3).map (fun i => (i.zero, i.size, i.bytes)) = some (some (.int .i64 0), 1, 8) := by kernel_rfl
theorem infoUc : (Try.prog.info? 56).map (fun i => (i.zero, i.size, i.bytes)) = some (some (.int .u64 0), 1, 8) := by kernel_rfl
theorem make_cap (K : Nat) (hK : K ≤ 65536) : ∃ cs : Array Value, cs.toList = List.replicate K (.int .i64 0) ∧ ∀ w : World, (Instr.makeSlice 23 (.int .i64 0) (.int .i64 (K : Int))).run Try.prog w = .ok (.slice (some ⟨w.heap.size, 0, none⟩) 0 K) (w.alloc (.cells cs 3)) := by
  obtain ⟨i0, hi, hz0, hz1, hz2⟩ := info_parts infoIc
  refine ⟨madeCells (Value.int .i64 0).cells (K * i0.size), ?_, fun w => ?_⟩
  · rw [hz1, Nat.mul_one]
    apply List.ext_getElem
    · simp [madeCells]
    · intro j h1 h2
      simp [madeCells, Value.cells, Nat.mod_one]
  · have hr := run_make (P := Try.prog) w 23 3 i0 (.int .i64 0) Try.underlying23 hi hz0 .i64 .i64 (0 : Nat) K (by omega) (by omega) (by rw [hz2]; omega) (by omega)
    simp only [Int.toNat_natCast] at hr
    exact hr
theorem make_words (K : Nat) (hK : K ≤ 1000000) : ∃ cs : Array Value, cs.toList = List.replicate K (.int .u64 0) ∧ ∀ w : World, (Instr.makeSlice 32 (.int .i64 (K : Int)) (.int .i64 (K : Int))).run Try.prog w = .ok (.slice (some ⟨w.heap.size, 0, none⟩) K K) (w.alloc (.cells cs 56)) := by
  obtain ⟨i0, hi, hz0, hz1, hz2⟩ := info_parts infoUc
  refine ⟨madeCells (Value.int .u64 0).cells (K * i0.size), ?_, fun w => ?_⟩
  · rw [hz1, Nat.mul_one]
    apply List.ext_getElem
    · simp [madeCells]
    · intro j h1 h2
      simp [madeCells, Value.cells, Nat.mod_one]
  · have hr := run_make (P := Try.prog) w 32 56 i0 (.int .u64 0) Try.underlying32 hi hz0 .i64 .i64 K K (by omega) (Int.le_refl _) (by rw [hz2]; omega) (by omega)
    simp only [Int.toNat_natCast] at hr
    exact hr
theorem own_made (w : World) (K : Nat) (hK : K ≤ 65536) (cs : Array Value) (hcs : cs.toList = List.replicate K (.int .i64 0)) : (w.alloc (.cells cs 3)).ownsRow w.heap.size 3 1 (.slice (some ⟨w.heap.size, 0, none⟩) 0 K) 0 [] :=
  ⟨by simp, .inr ⟨w.heap.size, K, cs, rfl, Nat.le_refl _, heap_alloc_new w _, Nat.zero_le _, by unfold maxLen; omega, by rw [← Array.length_toList, hcs]; simp, by simp⟩⟩
/-- the words of the roots, and the memory behind them -/
def rtP (h W : Nat) (s : St) (ns : List Nat) : St × List Nat := ns.foldl (fun p n => (renS h W p.1 n, p.2 ++ [renV h W p.1 n])) (s, [])
theorem rtP_snoc (h W : Nat) (s : St) (l : List Nat) (n : Nat) : rtP h W s (l ++ [n]) = (renS h W (rtP h W s l).1 n, (rtP h W s l).2 ++ [renV h W (rtP h W s l).1 n]) := by unfold rtP; rw [List.foldl_append]; rfl
theorem rtP_len (h W : Nat) (s : St) (l : List Nat) : (rtP h W s l).2.length = l.length := by
  have gen : ∀ (l : List Nat) (p : St × List Nat), (l.foldl (fun p n => (renS h W p.1 n, p.2 ++ [renV h W p.1 n])) p).2.length = p.2.length + l.length := by
    intro l
    induction l with
    | nil => intro p; rfl
    | cons x l ih => intro p; rw [List.foldl_cons, ih]; simp; omega
  have := gen l (s, [])
  simpa [rtP] using this
theorem row_set {r : List Nat} {N k v : Nat} (hr : r.length = k) (hk : k < N) : (r ++ List.replicate (N - k) 0).set k v = (r ++ [v]) ++ List.replicate (N - (k + 1)) 0 := by
  rw [List.set_append_right _ _ (by omega), hr, Nat.sub_self, show N - k = (N - (k + 1)) + 1 by omega, List.replicate_succ, List.set_cons_zero, List.append_assoc]
  rfl
/-- the memory behind a collection, its roots -/
def colS1 (h W : Nat) (now : List Ob) (met : List Nat) : St × List Int := mvP (1 - h) W (metI h W now met) ⟨[], now⟩ (List.range met.length)
def colS2 (h W : Nat) (now : List Ob) (met : List Nat) : St := rnS (1 - h) W (colS1 h W now met).2 (colS1 h W now met).1 (List.range met.length)
def colS3 (h W : Nat) (now : List Ob) (met ns : List Nat) : St × List Nat := rtP (1 - h) W (colS2 h W now met) ns
/-- what Collect leaves -/
def ColX (w : World) (b W h : Nat) (R : Nat → Value) (now : List Ob) (ns : List Nat) (e : Ending) (w' : World) : Prop :=
  (reach now h W ns = none ∧ e = .returned (.tuple #[.slice none 0 0, .int .i64 40]) ∧ Below w.heap.size w w') ∨
  (∃ met v R', reach now h W ns = some met ∧ e = .returned (.tuple #[v, .int .i64 0]) ∧ MX w (Own b R) b W (1 - h) (colS3 h W now met ns).1 w' R' ∧ w'.ownsRow w.heap.size 56 1 v ns.length (u64s (colS3 h W now met ns).2) ∧ ∀ g, v.ownBlock = some g → ¬ Own b R' g)
theorem fr_keep_cells {Y : Nat → Prop} {w w1 : World} {B : Nat} {t : TypeId} {v : Value} (hf : Fr Y w w1) (h : Boxed w B t v) (hn : ¬ Y B) : Boxed w1 B t v := (hf.block B h.lt hn).trans h
/-- the first loop: what was moved, the addresses so far -/
def L1 (w : World) (O : Nat → Prop) (b W h : Nat) (X : Nat → Prop) (Bm Bx : Nat) (S : List Nat → St × List Int) (l : List Nat) (W' : World) : Prop :=
  ∃ (R : Nat → Value) (vv : Value), CI w O b W h X (S l).1 W' R ∧ Boxed W' Bm 26 (.pointer (some ⟨b, 0, none⟩)) ∧ Boxed W' Bx 23 vv ∧ W'.ownsRow w.heap.size 3 1 vv (S l).2.length (ints (S l).2) ∧ ∀ g, vv.ownBlock = some g → ¬ Own b R g ∧ ¬ X g
theorem row_notrow {w : World} {B : Nat} {e : TypeId} {v : Value} {n : Nat} {xs : List Value} {row : Option Nat} (hr : w.ownsRow B e 1 v n xs) (hn : ∀ r, row = some r → ∃ o : Obj, w.heap[r]? = some o ∧ o.isCells = false) : v.ownBlock = none ∨ v.ownBlock ≠ row := by
  rcases hr.2 with ⟨hv, _⟩ | ⟨g, cap, cur, hv, _, hg, _⟩
  · exact .inl (by rw [hv]; rfl)
  · refine .inr (fun q => ?_)
    rw [hv] at q
    obtain ⟨o, ho, hc⟩ := hn g q.symm
    rw [hg] at ho
    cases ho
    cases hc
theorem box_notrow {w : World} {B : Nat} {t : TypeId} {v : Value} {row : Option Nat} (hb : Boxed w B t v) (hn : ∀ r, row = some r → ∃ o : Obj, w.heap[r]? = some o ∧ o.isCells = false) : some B ≠ row := by
  intro q
  obtain ⟨o, ho, hc⟩ := hn B q.symm
  rw [show w.heap[B]? = _ from hb] at ho
  cases ho
  cases hc
theorem ownFrom_l1 {w : World} {O X : Nat → Prop} {b W h B Bm Bx : Nat} (S : List Nat → St × List Int) (hB : w.heap.size ≤ B) : OwnFrom B (L1 w O b W h X Bm Bx S) := by
  rintro l A A' row ⟨R, vv, c, h1, h2, h3, h4⟩ hg hr
  have hr' : ∀ r, row = some r → ∃ o : Obj, A.heap[r]? = some o ∧ o.isCells = false := fun r e => (hr r e).2
  refine ⟨R, vv, c.kept (Y := fun i => row = some i) ((Fr.refl _ A).grown hg (fun k hk => .inl hk)) (fun i hi hrow => ?_) (fun i hi => .inr (by obtain ⟨h1, _⟩ := hr i hi; omega)), h1.kept hg (box_notrow h1 hr'), h2.kept hg (box_notrow h2 hr'), h3.kept hg (row_notrow h3 hr'), h4⟩
  obtain ⟨o, ho, hc⟩ := hr' i hrow
  rw [c.cellOf i o hi ho] at hc
  cases hc
theorem l1_app {w w5 w7 : World} {O X : Nat → Prop} {b W h Bm Bx : Nat} {s : St} {R : Nat → Value} {vv v7 : Value} {tmp : Obj} {la la' : List Int} (c : CI w O b W h X s w5 R) (hXm : X Bm) (hXx : X Bx) (hBx : w.heap.size ≤ Bx) (hmx : Bm ≠ Bx) (h1 : Boxed w5 Bm 26 (.pointer (some ⟨b, 0, none⟩))) (h2 : Boxed w5 Bx 23 vv) (h3 : w5.ownsRow w.heap.size 3 1 vv la.length (ints la)) (h4 : ∀ g, vv.ownBlock = some g → ¬ Own b R g ∧ ¬ X g)
    (hown : w7.ownsRow w.heap.size 3 1 v7 la'.length (ints la')) (hg : (w5.alloc tmp).grownBy w7 vv.ownBlock) (hblk : v7.ownBlock = vv.ownBlock ∨ v7.ownBlock = some (w5.alloc tmp).heap.size) :
    Boxed w7 Bx 23 vv ∧ CI w O b W h X s (w7.setCell ⟨Bx, 0, none⟩ v7) R ∧ Boxed (w7.setCell ⟨Bx, 0, none⟩ v7) Bm 26 (.pointer (some ⟨b, 0, none⟩)) ∧ Boxed (w7.setCell ⟨Bx, 0, none⟩ v7) Bx 23 v7 ∧ (w7.setCell ⟨Bx, 0, none⟩ v7).ownsRow w.heap.size 3 1 v7 la'.length (ints la') ∧ (∀ g, v7.ownBlock = some g → ¬ Own b R g ∧ ¬ X g) ∧ KeepsOthers w5 (w7.setCell ⟨Bx, 0, none⟩ v7) ∧ Fr (fun i => vv.ownBlock = some i ∨ i = Bx) w5 (w7.setCell ⟨Bx, 0, none⟩ v7) := by
  have hsz := c.x.fr.size
  obtain ⟨a1, a2, a3, a4, _⟩ := Boxed.appended (tmp := tmp) h2 (by decide : 23 ≠ 3) h3 hsz hBx hown hg
  have hf : Fr (fun i => vv.ownBlock = some i ∨ i = Bx) w5 (w7.setCell ⟨Bx, 0, none⟩ v7) := (((Fr.refl _ w5).alloc tmp).grown hg (fun k hk => .inl (.inl hk))).setCell (p := ⟨Bx, 0, none⟩) (.inl (.inr rfl)) _
  refine ⟨a1, c.kept hf (fun i hi q => ?_) (fun i hi => ?_), fr_keep_cells hf h1 (fun q => ?_), a2, a3, fun g hg' => ?_, a4, hf⟩
  · rcases q with q | q
    · exact (h4 i q).1 hi
    · subst q; exact (c.far _ hXx).1 hi
  · rcases hi with q | q
    · exact .inr (h3.lt i q).1
    · subst q; exact .inr hBx
  · rcases q with q | q
    · exact (h4 _ q).2 hXm
    · exact hmx q
  · rcases hblk with q | q
    · exact h4 g (q ▸ hg')
    · rw [q] at hg'
      obtain rfl := Option.some.inj hg'
      rw [World.size_alloc]
      refine ⟨fun q => ?_, fun q => ?_⟩
      · have := c.x.lt _ q; omega
      · have := (c.far _ q).2; omega
/-- the addresses are small -/
theorem mvP_bd {h W : Nat} {xs : List Int} {s : St} (z : WF W h s.now s.old) (l : List Nat) : ∀ t ∈ (mvP h W xs s l).2, t ≤ 131073 := by
  have gen : ∀ (l : List Nat) (p : St × List Int), WF W h p.1.now p.1.old → (∀ t ∈ p.2, t ≤ 131073) → ∀ t ∈ (l.foldl (fun p x => (movedX h W p.1 (xs.getD x 0), p.2 ++ [((moveX h W p.1 (xs.getD x 0)).1 : Int)])) p).2, t ≤ 131073 := by
    intro l
    induction l with
    | nil => intro p _ h2; exact h2
    | cons x l ih =>
      intro p h1 h2
      refine ih _ (movedX_wf h1 _) (fun t ht => ?_)
      rcases List.mem_append.1 ht with q | q
      · exact h2 t q
      · rw [List.mem_singleton.1 q]
        have := moveX_bd h1 (xs.getD x 0)
        omega
  exact gen l (s, []) z (by simp)
/-- the second loop: what was renewed -/
def L2 (w : World) (O : Nat → Prop) (b W h : Nat) (X : Nat → Prop) (Bm D : Nat) (T : List Nat → St) (l : List Nat) (W' : World) : Prop :=
  ∃ (R : Nat → Value), CI w O b W h X (T l) W' R ∧ Boxed W' Bm 26 (.pointer (some ⟨b, 0, none⟩)) ∧ W'.heap[D]? = some (.deferred (some []))
theorem ownFrom_l2 {w : World} {O X : Nat → Prop} {b W h B Bm D : Nat} (T : List Nat → St) (hB : w.heap.size ≤ B) (hD : D < B) : OwnFrom B (L2 w O b W h X Bm D T) := by
  rintro l A A' row ⟨R, c, h1, h2⟩ hg hr
  have hr' : ∀ r, row = some r → ∃ o : Obj, A.heap[r]? = some o ∧ o.isCells = false := fun r e => (hr r e).2
  refine ⟨R, c.kept (Y := fun i => row = some i) ((Fr.refl _ A).grown hg (fun k hk => .inl hk)) (fun i hi hrow => ?_) (fun i hi => .inr (by obtain ⟨h1, _⟩ := hr i hi; omega)), h1.kept hg (box_notrow h1 hr'), (hg.block D (Array.getElem?_eq_some_iff.1 h2).1 (fun q => by have := (hr D q.symm).1; omega)).trans h2⟩
  obtain ⟨o, ho, hc⟩ := hr' i hrow
  rw [c.cellOf i o hi ho] at hc
  cases hc
theorem def_kept {w w1 : World} {O X : Nat → Prop} {b W h D : Nat} {s : St} {R : Nat → Value} {wr : World} (c : CI w O b W h X s wr R) (hf : Fr (Own b R) wr w1) (hd : wr.heap[D]? = some (.deferred (some []))) : w1.heap[D]? = some (.deferred (some [])) :=
  (hf.block D (Array.getElem?_eq_some_iff.1 hd).1 (fun q => by have := c.cellOf D _ q hd; cases this)).trans hd
section
variable {w : World} {b W h : Nat} {R : Nat → Value} {now old : List Ob}
set_option maxRecDepth 100000 in
set_option maxHeartbeats 8000000 in
theorem collectX_any (m : Mem w b W h R now old) (z : WF W h now old) {a : Option Addr} {N c : Nat} {ns : List Nat} (hv : WordsV w a N ns) (hN : ∀ (g off : Nat), a = some ⟨g, off, none⟩ → ¬ Own b R g) (hN1 : N ≤ 1000) :
    Calls Try.prog 19 #[.pointer (some ⟨b, 0, none⟩), .slice a N c] w (ColX w b W h R now ns) := by
  have HT := Lib.hid (fun W1 (hb : Below w.heap.size w W1) (hs : w.heap.size ≤ W1.heap.size) => trace_any (m.below hb) z (c := c) (ns := ns) (a := a) (N := N) ⟨hv.len, hv.few, hv.word, fun j n hj => by
    obtain ⟨g, off, h1, h2, h3⟩ := hv.cell j n hj
    exact ⟨g, off, h1, by omega, (World.cell?_of_block (hb.block g h2)).trans h3⟩⟩)
  have HM := Lib.hid m
  have HVV0 := Lib.hid hv
  have HNN := Lib.hid hN
  clear m hv hN
  refine (callsIn_wide (n := 3)).1 ?_
  refine callsIn_of_wp_marks Try.func19 rfl trivial ?_ rfl
  simp only [Try.ntmps19, List.size_toArray, List.length_cons, List.length_nil, Nat.reduceAdd, Nat.reduceSub, Array.replicate_succ, Array.replicate_zero, List.push_toArray, List.append_toArray, List.nil_append, List.cons_append]
  have bM0 := Boxed.new w 26 (.pointer (some ⟨b, 0, none⟩))
  have hB0 : Below w.heap.size w (w.alloc (.cells #[.pointer (some ⟨b, 0, none⟩)] 26)) := (Below.refl _ w).alloc (Nat.le_refl _) _
  gi_wp2_with fail
  refine ⟨trivial, ?_⟩
  refine (callsIn_wide.2 (HT.out _ hB0 (by simp))).mono ?_
  rintro e w2 (⟨hr, rfl, hb⟩ | ⟨met, v, hr, rfl, hb2, hown⟩)
  · have HR := Lib.hid hr
    have HB := Lib.hid (hB0.trans (hb.mono (by simp)))
    clear hr hb hB0 bM0 HT
    gi_wp2_with fail
    refine ⟨_, results_tmp2 rfl _ _ _, .inl ⟨HR.out, rfl, HB.out⟩⟩
  · have hok := reach_okm hr
    rw [World.size_alloc] at hb2 hown
    have hs2 : w.heap.size + 1 ≤ w2.heap.size := by have := hb2.size; simpa using this
    have bM2 : Boxed w2 w.heap.size 26 (.pointer (some ⟨b, 0, none⟩)) := (hb2.block _ (by omega)).trans bM0
    have hB2 : Below w.heap.size w w2 := hB0.trans (hb2.mono (by omega))
    obtain ⟨va, cap, hv', _, _, _⟩ := rowI (l := metI h W now met) (va := v) (by rw [metI_length]; exact hown)
    subst hv'
    rw [metI_length] at hown ⊢
    obtain ⟨K, hK⟩ : ∃ K, met.length = K := ⟨_, rfl⟩
    have hKf : K ≤ 65536 := by
      have h2 := start_mono now (i := 0) (j := now.length) (Nat.zero_le _) (Nat.le_refl _)
      rw [start_len] at h2
      have := hok.len
      have := z.un
      have := z.w1
      omega
    have HFL := Lib.hid (flip_any (HM.out.below hB2) z)
    have HZ0 := Lib.hid (show WF W (1 - h) [] now from ⟨z.w0, z.w1, by have := z.hh; omega, Nat.zero_le _, z.un, by simp, z.okn, by intro o ho; cases ho⟩)
    have HOWN := Lib.hid hown
    have HRE := Lib.hid hr
    have HK := Lib.hid hK
    have HS2 := Lib.hid hs2
    have HB2 := Lib.hid hB2
    have hcm2 := bM2.cell
    have HBM := Lib.hid bM2
    have hvX : ∀ g, (Value.slice va K cap).ownBlock = some g → w.heap.size < g ∧ g < w2.heap.size := fun g hg => by
      have h1 := hown.lt g (by rw [hK]; exact hg)
      omega
    have HVX := Lib.hid hvX
    rw [hK]
    clear hown hb2 bM0 hB0 hK hr hok HT hB2 bM2 hvX
    gi_wp2_with fail
    refine ⟨trivial, ?_⟩
    refine (callsIn_wide.2 HFL.out).mono ?_
    rintro e w3 ⟨rfl, R3, m3, s3, f3⟩
    have hx3 : MX w (Own b R) b W (1 - h) ⟨[], now⟩ w3 R3 := ⟨m3, HZ0.out, fun i hi => .inl (s3 i hi), ((Fr.of_below (O := Own b R) HB2.out).trans f3 (fun i hi => .inl hi))⟩
    obtain ⟨cs, hcs, hmk⟩ := make_cap K hKf
    have hown3 : w3.ownsRow 0 3 1 (.slice va K cap) (metI h W now met).length (ints (metI h W now met)) := f3.own (by have := own_mono HOWN.out (Nat.zero_le (w.heap.size + 1)); rw [HK.out] at this; rw [metI_length, HK.out]; exact this) (fun g hg q => by
      have h1 := HVX.out g hg
      have := HM.out.own_lt g q
      omega)
    have hmo := own_made w3 K hKf cs hcs
    have hbx := Boxed.new (w3.alloc (.cells cs 3)) 23 (.slice (some ⟨w3.heap.size, 0, none⟩) 0 K)
    rw [World.size_alloc] at hbx
    have hbm3 : Boxed w3 w.heap.size 26 (.pointer (some ⟨b, 0, none⟩)) := (f3.block w.heap.size HBM.out.lt (fun q => by have := HM.out.own_lt _ q; omega)).trans HBM.out
    have HX3 := Lib.hid hx3
    have HO3 := Lib.hid hown3
    have HMO := Lib.hid hmo
    have HBX := Lib.hid hbx
    have HBM3 := Lib.hid hbm3
    have hs3 : w2.heap.size ≤ w3.heap.size := f3.size
    have HF3 := Lib.hid f3
    have HS3 := Lib.hid (fun i (hi : Own b R3 i) => HM.out.own_lt i (s3 i hi))
    clear hx3 hown3 hmo hbx m3 s3 f3 hbm3
    gi_wp2_with (refine ⟨trivial, ?_⟩; gi_at_call 52; refine (each_in Fence.wide _ trivial rfl _ _ _ _).mono ?_; rintro e w' ⟨rfl, rfl⟩)
    obtain ⟨Bx, hBx⟩ : ∃ Bx, w3.heap.size + 1 = Bx := ⟨_, rfl⟩
    have hBg : w.heap.size < Bx := by have := HB2.out.size; omega
    have bN := Boxed.new ((w3.alloc (.cells cs 3)).alloc (.cells #[.slice (some ⟨w3.heap.size, 0, none⟩) 0 K] 23)) 23 (.slice va K cap)
    rw [World.size_alloc, World.size_alloc, hBx] at bN
    have hrow6 : (((w3.alloc (.cells cs 3)).alloc (.cells #[.slice (some ⟨w3.heap.size, 0, none⟩) 0 K] 23)).alloc (.cells #[.slice va K cap] 23)).ownsRow 0 3 1 (.slice va K cap) (metI h W now met).length (ints (metI h W now met)) := ((HO3.out.alloc _).alloc _).alloc _
    have HL0 := Lib.hid (show L1 w (Own b R) b W (1 - h) (fun i => i = w.heap.size ∨ i = Bx ∨ (Value.slice va K cap).ownBlock = some i) w.heap.size Bx (mvP (1 - h) W (metI h W now met) ⟨[], now⟩) [] (((w3.alloc (.cells cs 3)).alloc (.cells #[.slice (some ⟨w3.heap.size, 0, none⟩) 0 K] 23)).alloc (.cells #[.slice va K cap] 23)) from by
      have hfr : Fr (fun _ => False) w3 (((w3.alloc (.cells cs 3)).alloc (.cells #[.slice (some ⟨w3.heap.size, 0, none⟩) 0 K] 23)).alloc (.cells #[.slice va K cap] 23)) := (((Fr.refl _ w3).alloc _).alloc _).alloc _
      have hlt3 : ∀ i, Own b R3 i → i < w3.heap.size := HX3.out.lt
      refine ⟨R3, _, ⟨HX3.out.kept hfr (fun _ _ => id) (fun _ h => h.elim), fun i hi => ⟨fun q => ?_, ?_⟩⟩, fr_keep_cells hfr HBM3.out id, by rw [← hBx]; exact HBX.out.alloc _, ((own_mono HMO.out (by have := HB2.out.size; omega)).alloc _).alloc _, fun g hg => ?_⟩
      · have hl := hlt3 i q
        rcases hi with e | e | e
        · have := HS3.out i q; omega
        · omega
        · have := HS3.out i q; have := HVX.out i e; omega
      · have h1 := hfr.size
        simp only [World.size_alloc]
        rcases hi with e | e | e
        · have := HB2.out.size; omega
        · omega
        · have := HVX.out i e; omega
      · have hg' : w3.heap.size = g := by simpa [Value.ownBlock] using hg
        subst hg'
        refine ⟨fun q => ?_, fun q => ?_⟩
        · have := hlt3 _ q; omega
        · rcases q with e | e | e
          · have := HB2.out.size; omega
          · omega
          · have := HVX.out _ e; omega)
    obtain ⟨xs, hxs⟩ : ∃ xs, metI h W now met = xs := ⟨_, rfl⟩
    rw [hxs] at HL0 hrow6
    have HXS := Lib.hid hxs
    have hxl : xs.length = K := by rw [← hxs, metI_length, HK.out]
    have HXB := Lib.hid (show ∀ x : Nat, xs[x]?.getD 0 ≤ 9223372036854775807 from fun x => by
      rw [← hxs]
      cases e : met[x]? with
      | none => rw [List.getElem?_eq_none (by rw [metI_length]; exact List.getElem?_eq_none_iff.1 e)]; decide
      | some j =>
        have hj := (reach_okm HRE.out).lt j (List.mem_of_getElem? e)
        have := (objA_bd z (Nat.le_of_lt hj)).2
        rw [metI_get e]
        show objA h W now j ≤ _
        omega)
    have HSN := Lib.hid (fun l x => mvP_snoc (1 - h) W xs ⟨[], now⟩ l x)
    have HSL := Lib.hid (fun l => mvP_len (1 - h) W xs ⟨[], now⟩ l)
    have HXL := Lib.hid hxl
    have HW6 := Lib.hid (show Below w3.heap.size w3 (((w3.alloc (.cells cs 3)).alloc (.cells #[.slice (some ⟨w3.heap.size, 0, none⟩) 0 K] 23)).alloc (.cells #[.slice va K cap] 23)) from (((Below.refl _ w3).alloc (Nat.le_refl _) _).alloc (by simp) _).alloc (by simp; omega) _)
    have hs6 : (((w3.alloc (.cells cs 3)).alloc (.cells #[.slice (some ⟨w3.heap.size, 0, none⟩) 0 K] 23)).alloc (.cells #[.slice va K cap] 23)).heap.size = Bx + 2 := by simp; omega
    rw [hBx]
    obtain ⟨w6, hw6⟩ : ∃ w6, (((w3.alloc (.cells cs 3)).alloc (.cells #[.slice (some ⟨w3.heap.size, 0, none⟩) 0 K] 23)).alloc (.cells #[.slice va K cap] 23)) = w6 := ⟨_, rfl⟩
    rw [hw6] at HL0 HW6 hrow6 bN hs6 ⊢
    have HBX0 := Lib.hid hBx
    obtain ⟨S, hS⟩ : ∃ S, mvP (1 - h) W xs ⟨[], now⟩ = S := ⟨_, rfl⟩
    rw [hS] at HL0 HSN HSL
    have HSS := Lib.hid hS
    obtain ⟨X, hX⟩ : ∃ X : Nat → Prop, (fun i => i = w.heap.size ∨ i = Bx ∨ (Value.slice va K cap).ownBlock = some i) = X := ⟨_, rfl⟩
    rw [hX] at HL0
    have HXm := Lib.hid (show X w.heap.size from by rw [← hX]; exact .inl rfl)
    have HXx := Lib.hid (show X Bx from by rw [← hX]; exact .inr (.inl rfl))
    have HXv := Lib.hid (show ∀ g, (Value.slice va K cap).ownBlock = some g → X g ∧ g ≠ Bx from fun g hg => ⟨by rw [← hX]; exact .inr (.inr hg), by have := HVX.out g hg; omega⟩)
    obtain ⟨i1, hi1, hz10, hz11, hz12⟩ := info_parts infoIc
    clear hw6 hS hX hxs hxl hBx hcm2
    refine wpIn_rangeFunc_ownG rfl (by omega) (gf := 80) (lb := #[.pointer (some ⟨Bx + 1, 0, none⟩)]) rfl trivial (enters_of Try.func80 (by kernel_rfl) rfl)
      (each_stops (3 - 1) (by omega) (Bx + 1) (.slice va K cap) xs w6 bN hrow6) keepL_t keepL_b (Below.refl _ _) (fun _ => rfl)
      (L1 w (Own b R) b W (1 - h) X w.heap.size Bx S)
      (fun _ _ _ => False)
      (ownFrom_l1 S (by omega))
      (fun _ _ _ _ _ hs _ _ => hs)
      HL0.out
      ?a1 ?assign ?body ?done ?stop
    case assign =>
      intro l x W' K hK
      gi_wp2
      exact hK
    case body =>
      rintro l pre x W' ⟨Rr, vv, cc, hb1, hb2, hrw, hvv⟩ hlt
      have hcm := hb1.cell
      have hcb := hb2.cell
      have hfb := hb2.frozen
      obtain ⟨Z, hZ⟩ : ∃ Z, xs[x]?.getD 0 = Z := ⟨_, rfl⟩
      rw [hZ]
      have hlv : (S pre).2.length = pre.length := HSL.out pre
      have HMV := Lib.hid (moveX_any cc.x Z (by have := HXB.out x; rw [hZ] at this; exact this))
      have hsn := HSN.out pre x
      rw [List.getD_eq_getElem?_getD, hZ] at hsn
      obtain ⟨t, ht⟩ : ∃ t, (moveX (1 - h) W (S pre).1 Z).1 = t := ⟨_, rfl⟩
      obtain ⟨q, hq⟩ : ∃ q, (moveX (1 - h) W (S pre).1 Z).2 = q := ⟨_, rfl⟩
      rw [ht, hq] at HMV
      rw [ht] at hsn
      have HC := Lib.hid cc
      have HB1 := Lib.hid hb1
      have HB2' := Lib.hid hb2
      have HRW := Lib.hid hrw
      have HVV := Lib.hid hvv
      have HSNx := Lib.hid hsn
      rw [HXL.out] at hlt
      obtain ⟨n0, hn0⟩ : ∃ n0, (S pre).2.length = n0 := ⟨_, rfl⟩
      have hn0' : n0 = pre.length := by rw [← hn0, hlv]
      have HN0 := Lib.hid hn0
      have hn0b : n0 ≤ 65536 := by omega
      clear cc hb1 hb2 hrw hvv hsn ht hq hlv hn0 hn0' hZ hcb hfb
      gi_wp2_with fail
      refine ⟨trivial, ?_⟩
      refine (CallsIn.inRound l (callsIn_wide.2 HMV.out)).mono ?_
      rintro e w5 ⟨rfl, R5, x5, s5, f5⟩
      have c5 := HC.out.turn x5 s5 f5
      have g1 := HC.out.box f5 HB1.out HXm.out
      have g2 := HC.out.box f5 HB2'.out HXx.out
      have g3 : w5.ownsRow w.heap.size 3 1 vv (S pre).2.length (ints (S pre).2) := f5.own HRW.out (fun g hg => (HVV.out g hg).1)
      have g4 : ∀ g, vv.ownBlock = some g → ¬ Own b R5 g ∧ ¬ X g := fun g hg => ⟨fun q => by
        rcases s5 g q with r | r
        · exact (HVV.out g hg).1 r
        · have := (HRW.out.lt g hg).2; omega, (HVV.out g hg).2⟩
      have hk5 := HC.out.keeps f5
      obtain ⟨ag, cg, hvg, _, _, _⟩ := rowI (l := (S pre).2) g3
      rw [HN0.out] at hvg
      subst hvg
      have hcb := g2.cell
      have hfb := g2.frozen
      have HC5 := Lib.hid c5
      have HG1 := Lib.hid g1
      have HG2 := Lib.hid g2
      have HG3 := Lib.hid g3
      have HG3' := Lib.hid (show w5.ownsRow w.heap.size 3 1 (.slice ag n0 cg) n0 (ints (S pre).2) from by have := g3; rw [HN0.out] at this; exact this)
      have HG4 := Lib.hid g4
      have HK5 := Lib.hid hk5
      have HF5 := Lib.hid f5
      have hsz5 := c5.x.fr.size
      clear x5 s5 f5 c5 g1 g2 g3 g4 hk5
      gi_wp2_with (gi_at_builtin; go_loud (refine wpListIn_append_own_at _ rfl _ _ 23 rfl w.heap.size 3 i1 (.int .i64 0) 1 8 Try.underlying23 hi1 hz10 hz11 hz12 rfl (by decide) _ n0 (ints (S pre).2) rfl (HG3'.out.alloc _) ⟨w5.heap.size, 0, none⟩ 1 1 [.int .i64 (t : Int)] rfl rfl (cell_one_new _ _ _) (by simp [Value.oneCell']) (by unfold maxLen; omega) (by omega) (by simp; omega) ?_; intro v7 w7 hown7 hgrow7 _ hblk7; rw [ints_snoc] at hown7; obtain ⟨g7, cap7, rfl⟩ := ownsRow_succ hown7; obtain ⟨q1, q2, q3, q4, q5, q6, q7, q8⟩ := l1_app (la' := (S pre).2 ++ [(t : Int)]) HC5.out HXm.out HXx.out (Nat.le_of_lt hBg) (Nat.ne_of_lt hBg) HG1.out HG2.out HG3.out HG4.out (by rw [List.length_append, HN0.out]; exact hown7) hgrow7 hblk7; have hc1 := q1.cell; have hf1 := q1.frozen; have HQ := Lib.hid (And.intro q2 (And.intro q3 (And.intro q4 (And.intro q5 (And.intro q6 (And.intro q7 q8)))))); clear q1 q2 q3 q4 q5 q6 q7 q8 hown7 hgrow7 hblk7))
      obtain ⟨q2, q3, q4, q5, q6, q7, q8⟩ := HQ.out
      refine ⟨(HK5.out.trans q7).from _, fun hr => ?_, R5, _, ?_, q3, q4, ?_, q6⟩
      · have h1 := HC.out.row HF5.out hr (fun g hg => (HXv.out g hg).1)
        exact q8.own h1 (fun g hg q => by
          rcases q with q | q
          · exact (HG4.out g q).2 (HXv.out g hg).1
          · exact (HXv.out g hg).2 q)
      · rw [HSNx.out]; exact q2
      · rw [HSNx.out]; exact q5
    case done =>
      rintro D ys W' hD rfl ⟨Rr, vv, cc, hb1, hb2, hrw, hvv⟩ hK
      have hla : (S (List.range xs.length)).2.length = K := by rw [HSL.out, List.length_range, HXL.out]
      obtain ⟨la, hlae⟩ : ∃ la, (S (List.range xs.length)).2 = la := ⟨_, rfl⟩
      obtain ⟨s1, hs1⟩ : ∃ s1, (S (List.range xs.length)).1 = s1 := ⟨_, rfl⟩
      have HLB := Lib.hid (show ∀ t ∈ la, t ≤ 131073 from by
        rw [← hlae, ← HSS.out]
        exact mvP_bd HZ0.out _)
      rw [hlae] at hrw hla
      rw [hs1] at cc
      obtain ⟨ag, cg, hvg, _, _, _⟩ := rowI (l := la) hrw
      rw [hla] at hvg hrw
      subst hvg
      have hcb := hb2.cell
      have HC := Lib.hid cc
      have HB1 := Lib.hid hb1
      have HRW := Lib.hid hrw
      have HVV := Lib.hid hvv
      have HLA := Lib.hid hla
      have HS1 := Lib.hid hs1
      have HLE := Lib.hid hlae
      have HKD := Lib.hid hK
      have hsz' := cc.x.fr.size
      have hDW : D < W'.heap.size := (Array.getElem?_eq_some_iff.1 hK).1
      clear cc hb1 hb2 hrw hvv hla hs1 hlae hK
      gi_wp2_with (refine ⟨trivial, ?_⟩; gi_at_call 52; refine (each_in Fence.wide _ trivial rfl _ _ _ _).mono ?_; rintro e w' ⟨rfl, rfl⟩)
      have bN2 := Boxed.new W' 23 (.slice ag K cg)
      obtain ⟨By, hBy⟩ : ∃ By, W'.heap.size = By := ⟨_, rfl⟩
      have hrow7 : (W'.alloc (.cells #[.slice ag K cg] 23)).ownsRow 0 3 1 (.slice ag K cg) la.length (ints la) := by rw [HLA.out]; exact (own_mono HRW.out (Nat.zero_le _)).alloc _
      have hfr7 : Fr (fun _ => False) W' (W'.alloc (.cells #[.slice ag K cg] 23)) := (Fr.refl _ W').alloc _
      have HL20 := Lib.hid (show L2 w (Own b R) b W (1 - h) (fun i => X i ∨ (Value.slice ag K cg).ownBlock = some i) w.heap.size D (rnS (1 - h) W la s1) [] (W'.alloc (.cells #[.slice ag K cg] 23)) from
        ⟨Rr, ⟨HC.out.x.kept hfr7 (fun _ _ => id) (fun _ h => h.elim), fun i hi => by
          rcases hi with q | q
          · exact ⟨(HC.out.far i q).1, Nat.lt_of_lt_of_le (HC.out.far i q).2 hfr7.size⟩
          · exact ⟨(HVV.out i q).1, Nat.lt_of_lt_of_le (HRW.out.lt i q).2 hfr7.size⟩⟩, fr_keep_cells hfr7 HB1.out id, (hfr7.block D hDW id).trans HKD.out⟩)
      have hs7 : (W'.alloc (.cells #[.slice ag K cg] 23)).heap.size = By + 1 := by rw [World.size_alloc, hBy]
      obtain ⟨w7, hw7⟩ : ∃ w7, W'.alloc (.cells #[.slice ag K cg] 23) = w7 := ⟨_, rfl⟩
      rw [hBy] at bN2 hsz' hDW
      rw [hw7] at bN2 hrow7 HL20 hs7 ⊢
      obtain ⟨X2, hX2⟩ : ∃ X2 : Nat → Prop, (fun i => X i ∨ (Value.slice ag K cg).ownBlock = some i) = X2 := ⟨_, rfl⟩
      rw [hX2] at HL20
      have HX2m := Lib.hid (show X2 w.heap.size from by rw [← hX2]; exact .inl HXm.out)
      have HX2v := Lib.hid (show ∀ g, (Value.slice ag K cg).ownBlock = some g → X2 g from fun g hg => by rw [← hX2]; exact .inr hg)
      obtain ⟨T, hT⟩ : ∃ T, rnS (1 - h) W la s1 = T := ⟨_, rfl⟩
      have HTS := Lib.hid (fun l x => rnS_snoc (1 - h) W la s1 l x)
      rw [hT] at HL20 HTS
      have HTT := Lib.hid hT
      have HZB := Lib.hid (show ∀ x : Nat, la[x]?.getD 0 ≤ 9223372036854775807 from fun x => by
        cases e : la[x]? with
        | none => decide
        | some t => have := HLB.out t (List.mem_of_getElem? e); show t ≤ _; omega)
      rw [hBy]
      clear hw7 hX2 hT hBy hfr7 hcb
      refine wpIn_rangeFunc_ownG rfl (by omega) (gf := 80) (lb := #[.pointer (some ⟨By, 0, none⟩)]) rfl trivial (enters_of Try.func80 (by kernel_rfl) rfl)
        (each_stops (3 - 1) (by omega) By (.slice ag K cg) la w7 bN2 hrow7) keepL_t keepL_b (Below.refl _ _) (fun _ => rfl)
        (L2 w (Own b R) b W (1 - h) X2 w.heap.size D T)
        (fun _ _ _ => False)
        (ownFrom_l2 T (by omega) (by omega))
        (fun _ _ _ _ _ hs _ _ => hs)
        HL20.out
        ?a2 ?assign2 ?body2 ?done2 ?stop2
      case assign2 =>
        intro l x W3 K3 hK3
        gi_wp2
        exact hK3
      case body2 =>
        rintro l pre x W3 ⟨R3, c3, hb3, hd3⟩ hlt
        have hcm := hb3.cell
        obtain ⟨Z, hZ⟩ : ∃ Z, la[x]?.getD 0 = Z := ⟨_, rfl⟩
        have hZb := HZB.out x
        rw [hZ] at hZb ⊢
        have HLK := Lib.hid (lookX_any c3.x.m c3.x.z Z hZb)
        have hbd := lookX_bd c3.x.z Z
        have hts := HTS.out pre x
        rw [List.getD_eq_getElem?_getD, hZ] at hts
        obtain ⟨q1, hq1⟩ : ∃ q, (lookX (1 - h) W (T pre) Z).1 = q := ⟨_, rfl⟩
        obtain ⟨q2, hq2⟩ : ∃ q, (lookX (1 - h) W (T pre) Z).2.1 = q := ⟨_, rfl⟩
        obtain ⟨tg, htg⟩ : ∃ q, (lookX (1 - h) W (T pre) Z).2.2.1 = q := ⟨_, rfl⟩
        obtain ⟨q4, hq4⟩ : ∃ q, (lookX (1 - h) W (T pre) Z).2.2.2 = q := ⟨_, rfl⟩
        rw [hq1, hq2, htg, hq4] at HLK
        rw [hq1, hq2, htg] at hbd
        rw [htg] at hts
        have HTSx := Lib.hid hts
        have htg2 : (tg : Int) ≤ 16384 := by omega
        have HC3 := Lib.hid c3
        have HB3 := Lib.hid hb3
        have HD3 := Lib.hid hd3
        clear c3 hb3 hd3 hts hq1 hq2 htg hq4 hbd hZ
        gi_wp2_with fail
        refine ⟨trivial, ?_⟩
        refine (CallsIn.inRound l (callsIn_wide.2 HLK.out)).mono ?_
        rintro e w8 ⟨rfl, n8, hw8⟩
        have hf8 : Fr (Own b R3) W3 w8 := by rw [hw8]; exact (Fr.refl _ _).drewN n8
        have HR8 := Lib.hid (show CI w (Own b R) b W (1 - h) X2 (rnO (1 - h) W Z (T pre) 0) w8 R3 ∧ Boxed w8 w.heap.size 26 (.pointer (some ⟨b, 0, none⟩)) ∧ w8.heap[D]? = some (.deferred (some [])) ∧ KeepsOthers W3 w8 ∧ KeepL (.slice ag K cg) la W3 w8 from
          ⟨by rw [hw8]; exact HC3.out.drewN n8, HC3.out.box hf8 HB3.out HX2m.out, def_kept HC3.out hf8 HD3.out, HC3.out.keeps hf8, fun hr => HC3.out.row hf8 hr HX2v.out⟩)
        clear hw8 hf8 hcm
        gi_wp2_with fail
        gi_loopw [62] (fun i wr => ∃ (k : Nat) (R4 : Nat → Value), k ≤ tg ∧ i = .int .i64 k ∧ CI w (Own b R) b W (1 - h) X2 (rnO (1 - h) W Z (T pre) k) wr R4 ∧ Boxed wr w.heap.size 26 (.pointer (some ⟨b, 0, none⟩)) ∧ wr.heap[D]? = some (.deferred (some [])) ∧ KeepsOthers W3 wr ∧ KeepL (.slice ag K cg) la W3 wr) (fun i _ => tg - (intOf i).toNat)
        case atStart => exact ⟨0, R3, Nat.zero_le _, rfl, HR8.out⟩
        case round =>
          obtain ⟨k, R4, hk, rfl, c4, hb4, hd4, hk4, hl4⟩ := hrel
          clear HR8
          by_cases hlt2 : k < tg
          · have hlti : (k : Int) < tg := by omega
            have hk0 : (0 : Int) ≤ k := by omega
            have hcm4 := hb4.cell
            have HLD := Lib.hid (loadX_any c4.x.m c4.x.z Z hZb k)
            have hnb := loadX_bd c4.x.z Z k
            have hrs := rnO_succ (1 - h) W Z (T pre) k
            unfold rnF at hrs
            obtain ⟨n, hn⟩ : ∃ n, (loadX (1 - h) W (rnO (1 - h) W Z (T pre) k) Z k).1 = n := ⟨_, rfl⟩
            obtain ⟨q, hq⟩ : ∃ q, (loadX (1 - h) W (rnO (1 - h) W Z (T pre) k) Z k).2 = q := ⟨_, rfl⟩
            rw [hn, hq] at HLD
            rw [hn] at hnb hrs
            have HRS := Lib.hid hrs
            have HP := Lib.hid (fun W1 => isptr_any (n : Int) W1 (by omega) (by omega))
            have HC4 := Lib.hid c4
            have HB4 := Lib.hid hb4
            have HD4 := Lib.hid hd4
            have HK4 := Lib.hid hk4
            have HL4 := Lib.hid hl4
            have HNB := Lib.hid hnb
            clear c4 hb4 hd4 hk4 hl4 hn hq hrs hnb
            gi_wp2_with fail
            refine ⟨trivial, ?_⟩
            refine (CallsIn.inRound l (callsIn_wide.2 HLD.out)).mono ?_
            rintro e w9 ⟨rfl, n9, hw9⟩
            have hf9 : Fr (Own b R4) wr w9 := by rw [hw9]; exact (Fr.refl _ _).drewN n9
            have HC9 := Lib.hid (show CI w (Own b R) b W (1 - h) X2 (rnO (1 - h) W Z (T pre) k) w9 R4 from by rw [hw9]; exact HC4.out.drewN n9)
            have hb9 := HC4.out.box hf9 HB4.out HX2m.out
            have HB9 := Lib.hid hb9
            have HD9 := Lib.hid (def_kept HC4.out hf9 HD4.out)
            have HK9 := Lib.hid (HK4.out.trans (HC4.out.keeps hf9))
            have HL9 := Lib.hid (show KeepL (.slice ag K cg) la W3 w9 from keepL_t HL4.out (fun hr => HC4.out.row hf9 hr HX2v.out))
            have hcm9 := hb9.cell
            clear hf9 hw9 hb9 hcm4
            cases hp : isPtrB (n : Int)
            · rw [hp] at HP HRS
              gi_wp2_with fail
              refine ⟨trivial, ?_⟩
              refine (CallsIn.inRound l (callsIn_wide.2 (HP.out _))).mono ?_
              rintro e w10 ⟨rfl, hw10⟩
              subst w10
              gi_wp2_with fail
              go_roundw
              case rel => exact ⟨k + 1, R4, hlt2, by go_num, by rw [HRS.out]; exact HC9.out, HB9.out, HD9.out, HK9.out, HL9.out⟩
              case measure => simp [intOf]; omega
            · rw [hp] at HP HRS
              have hfd : Fr (Own b R4) w9 w9.drew := (Fr.refl _ w9).drew
              have HCd := Lib.hid (show CI w (Own b R) b W (1 - h) X2 (rnO (1 - h) W Z (T pre) k) w9.drew R4 from HC9.out.drewN 1)
              have HBd := Lib.hid (HC9.out.box hfd HB9.out HX2m.out)
              have HDd := Lib.hid (def_kept HC9.out hfd HD9.out)
              have HKd := Lib.hid (HK9.out.trans (HC9.out.keeps hfd))
              have HLd := Lib.hid (show KeepL (.slice ag K cg) la W3 w9.drew from keepL_t HL9.out (fun hr => HC9.out.row hfd hr HX2v.out))
              have HST := Lib.hid (renX_any HCd.out.x n HNB.out)
              have hv10 := renV_bd (1 - h) W (rnO (1 - h) W Z (T pre) k) HNB.out
              simp only [if_true] at HRS
              obtain ⟨v10, hv10e⟩ : ∃ v10, renV (1 - h) W (rnO (1 - h) W Z (T pre) k) n = v10 := ⟨_, rfl⟩
              rw [hv10e] at HRS HST hv10
              have hcmd : w9.drew.cell? ⟨w.heap.size, 0, none⟩ = some (.pointer (some ⟨b, 0, none⟩)) := HBd.out.cell
              clear hv10e hfd
              gi_wp2_with fail
              refine ⟨trivial, ?_⟩
              refine (CallsIn.inRound l (callsIn_wide.2 (HP.out _))).mono ?_
              rintro e w10 ⟨rfl, hw10⟩
              subst w10
              gi_wp2_with fail
              refine wpIn_region_round rfl (by kernel_rfl) ?_
              change wpAny _ _ _ _ 7 _ _ _
              refine wpAny_take (i := 1) (v := .int .i64 Z) rfl (by kernel_rfl) (by kernel_rfl) (by kernel_rfl) (fun _ _ _ h => h) (Or.inl ⟨by rfl, fun w => by go_simp⟩) ?_
              refine wpAny_take (i := 2) (v := .int .i64 (k : Int)) rfl (by kernel_rfl) (by kernel_rfl) (by kernel_rfl) (fun _ _ _ h => h) (Or.inl ⟨by rfl, fun w => by go_simp⟩) ?_
              refine wpAny_take (i := 4) (v := .int .u64 (n : Int)) rfl (by kernel_rfl) (by kernel_rfl) (by kernel_rfl) (fun _ _ _ h => h) (Or.inl ⟨by rfl, fun w => by go_simp⟩) ?_
              change wpAny _ _ _ _ 4 _ _ _
              refine wpAny_ready (rs := [0, 3]) (by kernel_rfl) (by simp) ?_
              refine AllReady.cons (by rfl) (fun K hK => ?_) (AllReady.cons (by rfl) (fun K hK => ?_) AllReady.nil)
              · go_simp
                refine hK _ _ ?_
                clear hK K
                change wpAny _ _ _ _ 3 _ _ _
                refine wpAny_ready (rs := [3]) (by kernel_rfl) (by simp) ?_
                refine AllReady.cons (by rfl) (fun K hK => ?_) AllReady.nil
                go_simp
                refine hK _ _ ?_
                clear hK K
                change wpAny _ _ _ _ 2 _ _ _
                refine wpAny_ready (rs := [5]) (by kernel_rfl) (by simp) ?_
                refine AllReady.cons (by rfl) (fun K hK => ?_) AllReady.nil
                go_simp
                go_at_call 56
                refine HST.out.mono ?_
                rintro e w10 ⟨rfl, R5, x5, s5, f5⟩
                refine hK _ _ ?_
                clear hK K
                have HC10 := Lib.hid (HCd.out.turn x5 s5 f5)
                have hb10 := HCd.out.box f5 HBd.out HX2m.out
                have HB10 := Lib.hid hb10
                have HD10 := Lib.hid (def_kept HCd.out f5 HDd.out)
                have HK10 := Lib.hid (HKd.out.trans (HCd.out.keeps f5))
                have HL10 := Lib.hid (show KeepL (.slice ag K cg) la W3 w10 from keepL_t HLd.out (fun hr => HCd.out.row f5 hr HX2v.out))
                have hcm10 := hb10.cell
                have HSO := Lib.hid (storeX_any HC10.out.x Z hZb k v10 hv10)
                clear x5 s5 f5 hb10
                change wpAny _ _ _ _ 1 _ _ _
                refine wpAny_ready (rs := [6]) (by kernel_rfl) (by simp) ?_
                refine AllReady.cons (by rfl) (fun K hK => ?_) AllReady.nil
                go_simp
                go_at_call 44
                refine HSO.out.mono ?_
                rintro e w11 ⟨⟨q11, rfl⟩, x11, f11⟩
                refine hK _ _ ?_
                clear hK K
                refine wpAny_done (by kernel_rfl) ?_ _
                have HC11 := Lib.hid (HC10.out.turn x11 (fun i hi => .inl hi) f11)
                have HB11 := Lib.hid (HC10.out.box f11 HB10.out HX2m.out)
                have HD11 := Lib.hid (def_kept HC10.out f11 HD10.out)
                have HK11 := Lib.hid (HK10.out.trans (HC10.out.keeps f11))
                have HL11 := Lib.hid (show KeepL (.slice ag K cg) la W3 w11 from keepL_t HL10.out (fun hr => HC10.out.row f11 hr HX2v.out))
                clear x11 f11
                simp only [onlyN]
                gi_wp2_with fail
                go_roundw
                case rel => exact ⟨k + 1, _, hlt2, by go_num, by rw [HRS.out]; exact HC11.out, HB11.out, HD11.out, HK11.out, HL11.out⟩
                case measure => simp [intOf]; omega
              · go_simp
                refine hK _ _ ?_
                clear hK K
                change wpAny _ _ _ _ 3 _ _ _
                refine wpAny_ready (rs := [0, 5]) (by kernel_rfl) (by simp) ?_
                refine AllReady.cons (by rfl) (fun K hK => ?_) (AllReady.cons (by rfl) (fun K hK => ?_) AllReady.nil)
                · go_simp
                  refine hK _ _ ?_
                  clear hK K
                  change wpAny _ _ _ _ 2 _ _ _
                  refine wpAny_ready (rs := [5]) (by kernel_rfl) (by simp) ?_
                  refine AllReady.cons (by rfl) (fun K hK => ?_) AllReady.nil
                  go_simp
                  go_at_call 56
                  refine HST.out.mono ?_
                  rintro e w10 ⟨rfl, R5, x5, s5, f5⟩
                  refine hK _ _ ?_
                  clear hK K
                  have HC10 := Lib.hid (HCd.out.turn x5 s5 f5)
                  have hb10 := HCd.out.box f5 HBd.out HX2m.out
                  have HB10 := Lib.hid hb10
                  have HD10 := Lib.hid (def_kept HCd.out f5 HDd.out)
                  have HK10 := Lib.hid (HKd.out.trans (HCd.out.keeps f5))
                  have HL10 := Lib.hid (show KeepL (.slice ag K cg) la W3 w10 from keepL_t HLd.out (fun hr => HCd.out.row f5 hr HX2v.out))
                  have hcm10 := hb10.cell
                  have HSO := Lib.hid (storeX_any HC10.out.x Z hZb k v10 hv10)
                  clear x5 s5 f5 hb10
                  change wpAny _ _ _ _ 1 _ _ _
                  refine wpAny_ready (rs := [6]) (by kernel_rfl) (by simp) ?_
                  refine AllReady.cons (by rfl) (fun K hK => ?_) AllReady.nil
                  go_simp
                  go_at_call 44
                  refine HSO.out.mono ?_
                  rintro e w11 ⟨⟨q11, rfl⟩, x11, f11⟩
                  refine hK _ _ ?_
                  clear hK K
                  refine wpAny_done (by kernel_rfl) ?_ _
                  have HC11 := Lib.hid (HC10.out.turn x11 (fun i hi => .inl hi) f11)
                  have HB11 := Lib.hid (HC10.out.box f11 HB10.out HX2m.out)
                  have HD11 := Lib.hid (def_kept HC10.out f11 HD10.out)
                  have HK11 := Lib.hid (HK10.out.trans (HC10.out.keeps f11))
                  have HL11 := Lib.hid (show KeepL (.slice ag K cg) la W3 w11 from keepL_t HL10.out (fun hr => HC10.out.row f11 hr HX2v.out))
                  clear x11 f11
                  simp only [onlyN]
                  gi_wp2_with fail
                  go_roundw
                  case rel => exact ⟨k + 1, _, hlt2, by go_num, by rw [HRS.out]; exact HC11.out, HB11.out, HD11.out, HK11.out, HL11.out⟩
                  case measure => simp [intOf]; omega
                · go_simp
                  go_at_call 56
                  refine HST.out.mono ?_
                  rintro e w10 ⟨rfl, R5, x5, s5, f5⟩
                  refine hK _ _ ?_
                  clear hK K
                  have HC10 := Lib.hid (HCd.out.turn x5 s5 f5)
                  have hb10 := HCd.out.box f5 HBd.out HX2m.out
                  have HB10 := Lib.hid hb10
                  have HD10 := Lib.hid (def_kept HCd.out f5 HDd.out)
                  have HK10 := Lib.hid (HKd.out.trans (HCd.out.keeps f5))
                  have HL10 := Lib.hid (show KeepL (.slice ag K cg) la W3 w10 from keepL_t HLd.out (fun hr => HCd.out.row f5 hr HX2v.out))
                  have hcm10 := hb10.cell
                  have HSO := Lib.hid (storeX_any HC10.out.x Z hZb k v10 hv10)
                  clear x5 s5 f5 hb10
                  change wpAny _ _ _ _ 2 _ _ _
                  refine wpAny_ready (rs := [0]) (by kernel_rfl) (by simp) ?_
                  refine AllReady.cons (by rfl) (fun K hK => ?_) AllReady.nil
                  go_simp
                  refine hK _ _ ?_
                  clear hK K
                  change wpAny _ _ _ _ 1 _ _ _
                  refine wpAny_ready (rs := [6]) (by kernel_rfl) (by simp) ?_
                  refine AllReady.cons (by rfl) (fun K hK => ?_) AllReady.nil
                  go_simp
                  go_at_call 44
                  refine HSO.out.mono ?_
                  rintro e w11 ⟨⟨q11, rfl⟩, x11, f11⟩
                  refine hK _ _ ?_
                  clear hK K
                  refine wpAny_done (by kernel_rfl) ?_ _
                  have HC11 := Lib.hid (HC10.out.turn x11 (fun i hi => .inl hi) f11)
                  have HB11 := Lib.hid (HC10.out.box f11 HB10.out HX2m.out)
                  have HD11 := Lib.hid (def_kept HC10.out f11 HD10.out)
                  have HK11 := Lib.hid (HK10.out.trans (HC10.out.keeps f11))
                  have HL11 := Lib.hid (show KeepL (.slice ag K cg) la W3 w11 from keepL_t HL10.out (fun hr => HC10.out.row f11 hr HX2v.out))
                  clear x11 f11
                  simp only [onlyN]
                  gi_wp2_with fail
                  go_roundw
                  case rel => exact ⟨k + 1, _, hlt2, by go_num, by rw [HRS.out]; exact HC11.out, HB11.out, HD11.out, HK11.out, HL11.out⟩
                  case measure => simp [intOf]; omega
          · have hkt : k = tg := by omega
            have hlti : ¬ (k : Int) < tg := by omega
            have HE := Lib.hid (show KeepsOthers W3 wr ∧ KeepL (.slice ag K cg) la W3 wr ∧ L2 w (Own b R) b W (1 - h) X2 w.heap.size D T (pre ++ [x]) wr from ⟨hk4, hl4, R4, by rw [HTSx.out, ← hkt]; exact c4, hb4, hd4⟩)
            clear c4 hb4 hd4 hk4 hl4
            gi_wp2_with fail
            exact ⟨HE.out.1.from _, HE.out.2.1, HE.out.2.2⟩
      case done2 =>
        rintro D2 ys2 W4 hD2 rfl ⟨R4, c4, hb4, hd4⟩ hK4
        obtain ⟨s2, hs2'⟩ : ∃ s2, T (List.range la.length) = s2 := ⟨_, rfl⟩
        rw [hs2'] at c4
        have HCS := Lib.hid (show colS3 h W now met ns = rtP (1 - h) W s2 ns from by
          have e1 : colS1 h W now met = S (List.range xs.length) := by unfold colS1; rw [HXS.out, HSS.out, HXL.out, HK.out]
          unfold colS3 colS2
          rw [e1, HLE.out, HS1.out, HTT.out, ← hs2', HLA.out, HK.out])
        obtain ⟨cs4, hcs4, hmk4⟩ := make_words N (by omega)
        have hcm := hb4.cell
        obtain ⟨rb, hrb⟩ : ∃ rb, W4.heap.size = rb := ⟨_, rfl⟩
        have hl := HVV0.out.len
        have hfa : Fr (fun _ => False) W4 (W4.alloc (.cells cs4 56)) := (Fr.refl _ W4).alloc _
        have hsz4 := c4.x.fr.size
        have hrow4 : (W4.alloc (.cells cs4 56)).ownsRow w.heap.size 56 1 (.slice (some ⟨rb, 0, none⟩) N N) N (u64s (List.replicate N 0)) := by
          rw [← hrb]
          exact ⟨by simp [u64s], .inr ⟨W4.heap.size, N, cs4, rfl, hsz4, heap_alloc_new W4 _, Nat.le_refl _, by unfold maxLen; omega, by rw [← Array.length_toList, hcs4]; simp, by rw [hcs4]; simp [u64s]⟩⟩
        have HR0 := Lib.hid (show CI w (Own b R) b W (1 - h) (fun i => X2 i ∨ i = rb) (rtP (1 - h) W s2 (ns.take 0)).1 (W4.alloc (.cells cs4 56)) R4 ∧ Boxed (W4.alloc (.cells cs4 56)) w.heap.size 26 (.pointer (some ⟨b, 0, none⟩)) ∧ (W4.alloc (.cells cs4 56)).heap[D]? = some (.deferred (some [])) ∧ (W4.alloc (.cells cs4 56)).heap[D2]? = some (.deferred (some [])) ∧ (W4.alloc (.cells cs4 56)).ownsRow w.heap.size 56 1 (.slice (some ⟨rb, 0, none⟩) N N) N (u64s ((rtP (1 - h) W s2 (ns.take 0)).2 ++ List.replicate (N - 0) 0)) from
          ⟨⟨c4.x.kept hfa (fun _ _ => id) (fun _ h => h.elim), fun i hi => by
            rcases hi with q | q
            · exact ⟨(c4.far i q).1, Nat.lt_of_lt_of_le (c4.far i q).2 hfa.size⟩
            · subst q
              rw [World.size_alloc, ← hrb]
              exact ⟨fun q => by have := c4.x.lt _ q; omega, by omega⟩⟩, fr_keep_cells hfa hb4 id, (hfa.block D (Array.getElem?_eq_some_iff.1 hd4).1 id).trans hd4, (hfa.block D2 (Array.getElem?_eq_some_iff.1 hK4).1 id).trans hK4, hrow4⟩)
        have hbr : w.heap.size < rb := by rw [← hrb]; exact hb4.lt
        have hrbw : w.heap.size ≤ rb := by omega
        have hDD : D2 ≠ D := by omega
        have hDg : w.heap.size ≤ D ∧ w.heap.size ≤ D2 := by omega
        clear c4 hb4 hd4 hK4 hs2' hfa hrow4
        gi_wp2_with fail
        gi_loopw [87] (fun i wr => ∃ (k : Nat) (R5 : Nat → Value), k ≤ N ∧ i = .int .i64 k ∧ CI w (Own b R) b W (1 - h) (fun i => X2 i ∨ i = rb) (rtP (1 - h) W s2 (ns.take k)).1 wr R5 ∧ Boxed wr w.heap.size 26 (.pointer (some ⟨b, 0, none⟩)) ∧ wr.heap[D]? = some (.deferred (some [])) ∧ wr.heap[D2]? = some (.deferred (some [])) ∧ wr.ownsRow w.heap.size 56 1 (.slice (some ⟨rb, 0, none⟩) N N) N (u64s ((rtP (1 - h) W s2 (ns.take k)).2 ++ List.replicate (N - k) 0))) (fun i _ => N - (intOf i).toNat)
        case atStart => exact ⟨0, R4, Nat.zero_le _, rfl, HR0.out⟩
        case round =>
          obtain ⟨k, R5, hk, rfl, c5, hb5, hd5, he5, hr5⟩ := hrel
          clear HR0
          have hcm5 := hb5.cell
          by_cases hlt2 : k < N
          · have hlti : (k : Int) < N := by omega
            have hk0 : (0 : Int) ≤ k := by omega
            obtain ⟨n, hn⟩ : ∃ n, ns[k]? = some n := ⟨_, List.getElem?_eq_getElem (by omega)⟩
            obtain ⟨g, off, ha, hg, hcg⟩ := HVV0.out.cell k n hn
            subst ha
            have hcg' : wr.cell? ⟨g, off + k, none⟩ = some (.int .u64 (n : Int)) := (c5.x.fr.cell (p := ⟨g, off + k, none⟩) hg (HNN.out g off rfl)).trans hcg
            have hnb := HVV0.out.word n (List.mem_of_getElem? hn)
            have HRN := Lib.hid (renX_any c5.x n hnb)
            obtain ⟨r, hre⟩ : ∃ r, (rtP (1 - h) W s2 (ns.take k)).2 = r := ⟨_, rfl⟩
            have hrl : r.length = k := by rw [← hre, rtP_len, List.length_take]; omega
            have htk : ns.take (k + 1) = ns.take k ++ [n] := by
              obtain ⟨hp, e⟩ := List.getElem?_eq_some_iff.1 hn
              rw [List.take_succ_eq_append_getElem hp, e]
            have hsn := rtP_snoc (1 - h) W s2 (ns.take k) n
            rw [← htk, hre] at hsn
            obtain ⟨v5, hv5⟩ : ∃ v5, renV (1 - h) W (rtP (1 - h) W s2 (ns.take k)).1 n = v5 := ⟨_, rfl⟩
            rw [hv5] at HRN hsn
            rw [hre] at hr5
            have HC5 := Lib.hid c5
            have HB5 := Lib.hid hb5
            have HD5 := Lib.hid hd5
            have HE5 := Lib.hid he5
            have HR5 := Lib.hid hr5
            have HSNr := Lib.hid hsn
            have HRL := Lib.hid hrl
            clear c5 hb5 hd5 he5 hr5 hsn hrl hre hv5 htk hn hcg hnb hg
            gi_wp2_with fail
            refine ⟨trivial, ?_⟩
            refine (callsIn_wide.2 HRN.out).mono ?_
            rintro e w6' ⟨rfl, R6, x6, t6, f6⟩
            have c6 := HC5.out.turn x6 t6 f6
            have b6 := HC5.out.box f6 HB5.out (.inl HX2m.out)
            have r6 : w6'.ownsRow w.heap.size 56 1 (.slice (some ⟨rb, 0, none⟩) N N) N (u64s (r ++ List.replicate (N - k) 0)) := HC5.out.row f6 HR5.out (fun g hg => .inr (by simpa [Value.ownBlock] using hg.symm))
            have HC6 := Lib.hid c6
            have HB6 := Lib.hid b6
            have HD6 := Lib.hid (def_kept HC5.out f6 HD5.out)
            have HE6 := Lib.hid (def_kept HC5.out f6 HE5.out)
            have hst := r6.stored k (.int .u64 (v5 : Int))
            rw [← u64s_set, row_set HRL.out hlt2] at hst
            have HST := Lib.hid hst
            have HR6 := Lib.hid r6
            have hcx : w6'.cell? ⟨rb, k, none⟩ = some (.int .u64 0) := by
              rw [r6.cellAt k (by omega)]
              simp only [u64s, List.map_append, List.map_replicate]
              rw [List.getElem?_append_right (by rw [List.length_map, HRL.out]; exact Nat.le_refl _), List.length_map, HRL.out, Nat.sub_self, List.getElem?_replicate, if_pos (by omega)]
              rfl
            have hfx : w6'.frozen? ⟨rb, k, none⟩ = false := r6.frozenAt k
            clear x6 t6 f6 c6 b6 r6 hst hcg' hcm5
            gi_wp2_with fail
            have hfs : Fr (· = rb) w6' (w6'.setCell ⟨rb, k, none⟩ (.int .u64 (v5 : Int))) := (Fr.refl (· = rb) w6').setCell (p := ⟨rb, k, none⟩) (.inl rfl) _
            have HFS := Lib.hid hfs
            clear hfs
            go_roundw
            case rel =>
              have hnb' : ∀ (q : Nat) (o : Obj), w6'.heap[q]? = some o → o.isCells = false → q ≠ rb := fun q o ho hc e => by
                subst e
                rcases HR6.out.2 with ⟨h0, _⟩ | ⟨g9, _, _, h9, _, hk9, _⟩
                · cases h0
                · obtain rfl : q = g9 := by injection h9 with h9; injection h9 with h9; injection h9
                  rw [ho] at hk9
                  cases hk9
                  cases hc
              refine ⟨k + 1, R6, hlt2, by go_num, ?_, ?_, ?_, ?_, ?_⟩
              · rw [HSNr.out]
                exact HC6.out.kept HFS.out (fun i hi q => (HC6.out.far i (.inr q)).1 hi) (fun i hi => .inr (by subst hi; exact hrbw))
              · exact fr_keep_cells HFS.out HB6.out (Nat.ne_of_lt hbr)
              · exact (HFS.out.block D (Array.getElem?_eq_some_iff.1 HD6.out).1 (hnb' D _ HD6.out rfl)).trans HD6.out
              · exact (HFS.out.block D2 (Array.getElem?_eq_some_iff.1 HE6.out).1 (hnb' D2 _ HE6.out rfl)).trans HE6.out
              · rw [HSNr.out]; exact HST.out.1
            case measure => simp [intOf]; omega
          · have hkN : k = N := by omega
            have hlti : ¬ (k : Int) < N := by omega
            have htn : ns.take k = ns := List.take_of_length_le (by omega)
            rw [htn] at c5 hr5
            have HE := Lib.hid (show (rtP (1 - h) W s2 ns = colS3 h W now met ns) ∧ ns.length = N from ⟨HCS.out.symm, hl⟩)
            have HC5 := Lib.hid c5
            have HR5 := Lib.hid (show wr.ownsRow w.heap.size 56 1 (.slice (some ⟨rb, 0, none⟩) N N) N (u64s (rtP (1 - h) W s2 ns).2) from by rw [hkN, Nat.sub_self, List.replicate_zero, List.append_nil] at hr5; exact hr5)
            have HD5 := Lib.hid hd5
            have HE5 := Lib.hid he5
            clear c5 hb5 hd5 he5 hr5 htn hcm5
            gi_wp2_with fail
            refine ⟨by simp, .inl ⟨_, _, rfl, run_takeDeferred HE5.out, ?_⟩⟩
            have hd10 : (wr.putObj D2 (.deferred none)).heap[D]? = some (.deferred (some [])) := (World.putObj_heap_other (fun e => hDD e.symm)).trans HD5.out
            refine ⟨by simp, .inl ⟨_, _, rfl, run_takeDeferred hd10, ?_⟩⟩
            have hff : Fr (fun i => i = D2 ∨ i = D) wr ((wr.putObj D2 (.deferred none)).putObj D (.deferred none)) := ((Fr.refl _ wr).grown (grownBy_putObj' wr D2 (.deferred none)) (fun k e => .inl (.inl (Option.some.inj e).symm))).grown (grownBy_putObj' _ D (.deferred none)) (fun k e => .inl (.inr (Option.some.inj e).symm))
            refine ⟨_, results_tmp2 rfl _ _ _, .inr ⟨met, _, R5, HRE.out, rfl, ?_, ?_, ?_⟩⟩
            · rw [← HE.out.1]
              refine HC5.out.x.kept hff (fun i hi q => ?_) (fun i hi => .inr (by rcases hi with q | q <;> omega))
              rcases q with q | q
              · subst q; have := HC5.out.cellOf _ _ hi HE5.out; cases this
              · subst q; have := HC5.out.cellOf _ _ hi HD5.out; cases this
            · rw [← HE.out.1, HE.out.2]
              exact ownsRow_putObj (ownsRow_putObj HR5.out (.deferred none) HE5.out rfl) (.deferred none) hd10 rfl
            · intro g hg
              have hg' : rb = g := by simpa [Value.ownBlock] using hg
              exact (HC5.out.far g (.inr hg'.symm)).1
      case stop2 =>
        rintro D2 c pre W' _ _ h _
        exact h.elim
    case stop =>
      rintro D c pre W' _ _ h _
      exact h.elim
end
end Go.Proofs.Ytjdhjehnofediaa
