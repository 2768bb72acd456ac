/- The walk of the statement GcTwice: it returns true. Condition: the arguments read as objects and integers. -/
import Derived.Test.YtjdhjehnofediaaGcBeg
import Derived.Test.YtjdhjehnofediaaGcAlM
import Derived.Test.YtjdhjehnofediaaMemI
import Derived.Test.YtjdhjehnofediaaMemCopy
import Derived.Deep.RegionHeld3
namespace Go.Proofs.Ytjdhjehnofediaa
open Go Go.RowKit Go.Shelf
attribute [local go_sem] Oper.semAt_some
section
variable {n l : Nat} {P : Program} {ops : Array Oper} {C : World → Prop} {Q : Act → Prop}
theorem quietAt_round {o : Oper} {a : Act} {w : World} {v : Value} (h : o.quietAt P a C w v) : o.quietAtIn (Fence.wide.inRound l) n P a C w v := by
  unfold Oper.quietAt at h
  unfold Oper.quietAtIn
  generalize (execOp a.eval o).run P w = r at h ⊢
  unfold Oper.quietUpon at h
  unfold Oper.quietUponIn
  split at h
  · exact h
  · exact h
  · exact ⟨h.1, fun q => (by cases q), CallsIn.inRound l (callsIn_wide.2 h.2)⟩
  · exact h.elim
theorem wpQuietIn_round : ∀ (L : List Oper) (a : Act), wpQuiet P ops C Q L a → wpQuietIn (Fence.wide.inRound l) n P ops C Q L a
  | [], _, h => h
  | o :: rest, a, h => by
    refine ⟨fun _ _ _ _ => trivial, ?_⟩
    unfold wpQuiet at h
    by_cases hw : Region.wanted o (yielded ops a.tmps) = true
    · rw [if_pos hw] at h ⊢
      obtain ⟨v, h1, h2⟩ := h
      exact ⟨v, fun w hc => quietAt_round (h1 w hc), wpQuietIn_round rest _ h2⟩
    · rw [if_neg hw] at h ⊢
      exact wpQuietIn_round rest _ h
end
theorem keepsOthers_drewN (W : World) (n : Nat) : KeepsOthers W (W.drewN n) := ⟨Nat.le_refl _, fun _ _ h _ => h⟩
/-- the boxes of the walk: the result's, the width's -/
structure TB (w : World) (I W : Nat) (X : World) : Prop where
  r : Boxed X w.heap.size 4 (.bool false)
  i : Boxed X I 3 (.int .i64 (W : Int))
  base : Below w.heap.size w X
theorem TB.below {w X Y : World} {I W : Nat} (h : TB w I W X) (hb : Below X.heap.size X Y) : TB w I W Y :=
  ⟨(hb.block _ h.r.lt).trans h.r, (hb.block _ h.i.lt).trans h.i, h.base.trans (hb.mono h.base.size)⟩
theorem TB.fr {w X Y : World} {I W : Nat} {O : Nat → Prop} (h : TB w I W X) (hf : Fr O X Y) (hO : ∀ i, O i → w.heap.size < i) (hI : ¬ O I) : TB w I W Y :=
  ⟨(hf.block _ h.r.lt (fun q => by have := hO _ q; omega)).trans h.r, (hf.block _ h.i.lt hI).trans h.i, h.base.trans (hf.below h.base.size (fun i hi => Nat.le_of_lt (hO i hi)))⟩
theorem wv_below {w w1 : World} {a : Option Addr} {N : Nat} {ns : List Nat} (h : WordsV w a N ns) (hb : Below w.heap.size w w1) : WordsV w1 a N ns :=
  ⟨h.len, h.few, h.word, fun j n hj => by
    obtain ⟨g, off, h1, h2, h3⟩ := h.cell j n hj
    exact ⟨g, off, h1, by have := hb.size; omega, (World.cell?_of_block (hb.block g h2)).trans h3⟩⟩
/-- Objects: the memory is boxed; the function value captures the box. -/
theorem objects_boxT (F : Fence) (n : Nat) (h4 : F.fn 34) (hro : F.round = none) (p : Option Addr) (w : World) :
    CallsIn F n Try.prog 34 #[.pointer p] w fun e w' => e = .returned (.func (.func 65) #[] #[.pointer (some ⟨w.heap.size, 0, none⟩)]) ∧ w' = w.alloc (.cells #[.pointer p] 26) := by
  refine callsIn_of_wp Try.func34 rfl h4 ?_ hro
  simp only [Try.ntmps34, List.size_toArray, List.length_cons, List.length_nil, Nat.reduceAdd, Nat.reduceSub, Array.replicate_succ, Array.replicate_zero, List.push_toArray, List.append_toArray, List.nil_append, List.cons_append]
  gi_wp2
  go_ret
  exact ⟨rfl, rfl⟩
/-- behind the second collection -/
structure TW (w : World) (I J K b bc W M : Nat) (Vc R6 : Nat → Value) (n1 o1 n2 o2 : List Ob) (a4 a6 : Option Addr) (ws us : List Nat) (X : World) : Prop where
  tb : TB w I W X
  j : Boxed X J 26 (.pointer (some ⟨b, 0, none⟩))
  k : Boxed X K 26 (.pointer (some ⟨bc, 0, none⟩))
  mo : Mem X bc W 1 Vc n1 o1
  m : Mem X b W 0 R6 n2 o2
  r4 : WordsV X a4 M ws
  r6 : WordsV X a6 M us
theorem TW.below {w X Y : World} {I J K b bc W M : Nat} {Vc R6 : Nat → Value} {n1 o1 n2 o2 : List Ob} {a4 a6 : Option Addr} {ws us : List Nat} (h : TW w I J K b bc W M Vc R6 n1 o1 n2 o2 a4 a6 ws us X) (hb : Below X.heap.size X Y) : TW w I J K b bc W M Vc R6 n1 o1 n2 o2 a4 a6 ws us Y :=
  ⟨h.tb.below hb, (hb.block _ h.j.lt).trans h.j, (hb.block _ h.k.lt).trans h.k, h.mo.below hb, h.m.below hb, wv_below h.r4 hb, wv_below h.r6 hb⟩
theorem used_twice {now : List Ob} {W : Nat} {met : List Nat} : used (newF 1 W (newF 0 W now met) (List.range met.length)) = used (newF 0 W now met) := by
  rw [used_congr (sz_newF 1 W _ _)]
  have h := pick_range (newF 0 W now met)
  rw [newF_length] at h
  rw [h]
/-- Collect of a row of the call's own -/
theorem col_row {w : World} {b W h B n : Nat} {R : Nat → Value} {now old : List Ob} {v : Value} {ns : List Nat} (m : Mem w b W h R now old) (z : WF W h now old) (ho : w.ownsRow B 56 1 v n (u64s ns)) (hl : ns.length = n) (hn : n ≤ 1000) (hw : ∀ x ∈ ns, x < 18446744073709551616) (hN : ∀ g, v.ownBlock = some g → ¬ Own b R g) :
    Calls Try.prog 19 #[.pointer (some ⟨b, 0, none⟩), v] w (Collected w b W h R now ns) := by
  obtain ⟨a, c, rfl, hwv, hg⟩ := wordsV_own ho hl (by omega) hw
  exact collect_any m z hwv (fun g off e => hN g (hg g off e)) hn
theorem col_none {w : World} {b W h : Nat} {R : Nat → Value} {now : List Ob} {ns : List Nat} {e : Ending} {w' : World} (c : Collected w b W h R now ns e w') (hr : reach now h W ns = none) : e = .returned (.tuple #[.slice none 0 0, .int .i64 40]) ∧ Below w.heap.size w w' := by
  rcases c with ⟨_, h1, h2⟩ | ⟨met, _, _, h1, _⟩
  · exact ⟨h1, h2⟩
  · rw [hr] at h1; cases h1
theorem col_some {w : World} {b W h : Nat} {R : Nat → Value} {now : List Ob} {ns met : List Nat} {e : Ending} {w' : World} (c : Collected w b W h R now ns e w') (hr : reach now h W ns = some met) : ∃ v R', e = .returned (.tuple #[v, .int .i64 0]) ∧ MX w (Own b R) b W (1 - h) ⟨newF h W now met, oldK (1 - h) W now met met⟩ w' R' ∧ w'.ownsRow w.heap.size 56 1 v ns.length (u64s (ns.map (renW h W now met))) ∧ ∀ g, v.ownBlock = some g → ¬ Own b R' g := by
  rcases c with ⟨h1, _⟩ | ⟨met', v, R', h1, h2⟩
  · rw [hr] at h1; cases h1
  · rw [hr] at h1
    obtain rfl := Option.some.inj h1
    exact ⟨v, R', h2⟩
set_option maxRecDepth 100000 in
set_option maxHeartbeats 8000000 in
theorem gcTwice_walk {w : World} {a : Option Addr} {N c : Nat} {rs : List O4} {v2 : Value} {zs : List Int} (hv : ArgV w a N rs) (hz : IntsV w v2 zs) :
    Calls Try.prog 9 #[.slice a N c, v2] w fun e w' => e = .returned (.bool true) ∧ Below w.heap.size w w' := by
  have hnf2 : ∀ (p : Nat) (W : World), (binOp BinOp.eql 48 (Value.func (Fn.func 65) #[] #[Value.pointer (some ⟨p, 0, none⟩)]) Value.nilFunc).run Try.prog W = .ok (.bool false) W := fun _ _ => by kernel_rfl
  have hrng := hv.rng
  obtain ⟨a2, N2, c2, rfl, hrv⟩ := roots_of hz
  have hzl := hrv.len
  have bR0 := Boxed.new w 4 (.bool false)
  have hB0 : Below w.heap.size w (w.alloc (.cells #[.bool false] 4)) := (Below.refl _ w).alloc (Nat.le_refl _) _
  have HH := Lib.hid (heap_any (c := c) (hv.below hB0))
  have HRV := Lib.hid hrv
  have HBR0 := Lib.hid bR0
  have HB0 := Lib.hid hB0
  have huh := used_heap hrng
  have hWb := heapW_bd hrng
  have HRN := Lib.hid (heapR hrng)
  obtain ⟨W, hW⟩ : ∃ W, heapW rs = W := ⟨_, rfl⟩
  obtain ⟨os, hos⟩ : ∃ os, heapO rs = os := ⟨_, rfl⟩
  rw [hW, hos] at HH HRN
  rw [hW, hos] at huh
  rw [hW] at hWb
  obtain ⟨N1, hN1⟩ : ∃ N1, os.length = N1 := ⟨_, rfl⟩
  rw [hN1] at HH
  clear hv hz hrv hrng hW hos hN1 bR0 hB0
  refine (callsIn_wide (n := 5)).1 ?_
  refine callsIn_of_wp_marks Try.func9 rfl trivial ?_ rfl
  simp only [Try.ntmps9, List.size_toArray, List.length_cons, List.length_nil, Nat.reduceAdd, Nat.reduceSub, Array.replicate_succ, Array.replicate_zero, List.push_toArray, List.append_toArray, List.nil_append, List.cons_append]
  gi_wp2_with fail
  refine ⟨trivial, ?_⟩
  refine (callsIn_wide.2 HH.out).mono ?_
  rintro e w1 ⟨a1, c1, rfl, ho1, hb1⟩
  have HB1 : Hid (Below w.heap.size w w1) := HB0.out.trans (hb1.mono HB0.out.size)
  have bR1 : Boxed w1 w.heap.size 4 (.bool false) := (hb1.block _ HBR0.out.lt).trans HBR0.out
  obtain ⟨X1, hX1⟩ : ∃ X1, (w1.alloc (.cells #[.int .i64 (W : Int)] 3)) = X1 := ⟨_, rfl⟩
  have hb1X : Below w1.heap.size w1 X1 := by rw [← hX1]; exact (Below.refl _ w1).alloc (Nat.le_refl _) _
  have bI1 : Boxed X1 w1.heap.size 3 (.int .i64 (W : Int)) := by rw [← hX1]; exact Boxed.new w1 3 _
  have HTB1 := Lib.hid (show TB w w1.heap.size W X1 from ⟨(hb1X.block _ bR1.lt).trans bR1, bI1, HB1.out.trans (hb1X.mono HB1.out.size)⟩)
  have HO1 := Lib.hid (ho1.below hb1X)
  have hwI : w.heap.size < w1.heap.size := bR1.lt
  have hI1 : w1.heap.size < X1.heap.size := bI1.lt
  have HMD := Lib.hid (made_any (c := c1) HO1.out HRN.out)
  have q0 := bI1.cell
  clear ho1 hb1 HH hb1X bI1 bR1
  gi_wp2_with fail
  refine ⟨trivial, ?_⟩
  refine (callsIn_wide.2 HMD.out).mono ?_
  rintro e w2 ⟨rfl, R2, m2⟩
  have hpn : ((some (⟨X1.heap.size, 0, none⟩ : Addr)) == none) = false := rfl
  obtain ⟨now, hnow⟩ : ∃ now, heapObs os = now := ⟨_, rfl⟩
  rw [hnow] at m2 huh
  have HM2 := Lib.hid m2
  have bP2 := Boxed.new w2 26 (.pointer (some ⟨X1.heap.size, 0, none⟩))
  obtain ⟨X2, hX2⟩ : ∃ X2, (w2.alloc (.cells #[.pointer (some ⟨X1.heap.size, 0, none⟩)] 26)) = X2 := ⟨_, rfl⟩
  have hb2X : Below w2.heap.size w2 X2 := by rw [← hX2]; exact (Below.refl _ w2).alloc (Nat.le_refl _) _
  rw [hX2] at bP2
  have hTB2 : TB w w1.heap.size W X2 := (HTB1.out.below m2.fr).below hb2X
  have hM2X : Mem X2 X1.heap.size W 0 R2 now [] := m2.m.below hb2X
  have hI2 : X1.heap.size < w2.heap.size := m2.m.lt
  have hGE : ∀ i, Own X1.heap.size R2 i → X1.heap.size ≤ i ∧ i < w2.heap.size := fun i hi => ⟨m2.ge i hi, m2.m.own_lt i hi⟩
  have hbX : Below X2.heap.size X2 X2.drew := (Below.refl _ _).drew
  obtain ⟨I, hI⟩ : ∃ I, w1.heap.size = I := ⟨_, rfl⟩
  obtain ⟨J, hJ⟩ : ∃ J, w2.heap.size = J := ⟨_, rfl⟩
  obtain ⟨b, hb⟩ : ∃ b, X1.heap.size = b := ⟨_, rfl⟩
  have HOX := Lib.hid ((HO1.out.below m2.fr).below hb2X)
  rw [hI] at hTB2 hwI hI1
  rw [hJ] at bP2 hI2 hGE
  rw [hb] at hpn bP2 hM2X hI2 hGE hI1 hX2
  have HWD := Lib.hid (words_root (c := c1) (c2 := c2) (HOX.out.below hbX) (HRV.out.below (hTB2.base.trans (hbX.mono hTB2.base.size))))
  have HTB2 := Lib.hid hTB2
  have HGE := Lib.hid hGE
  have HM3 := Lib.hid (hM2X.below hbX)
  have HZ := Lib.hid m2.z
  have HBP := Lib.hid (show Boxed X2.drew J 26 (.pointer (some ⟨b, 0, none⟩)) from (hbX.block _ bP2.lt).trans bP2)
  obtain ⟨ns, hns⟩ : ∃ ns, rootsN os zs (min N2 50) = ns := ⟨_, rfl⟩
  have hnl : ns.length = min N2 50 := by rw [← hns]; exact rootsN_len' hzl
  have hnw : ∀ x ∈ ns, x < 18446744073709551616 := by rw [← hns]; exact rootsN_lt _ _ _
  rw [hns] at HWD
  obtain ⟨M, hM⟩ : ∃ M, min N2 50 = M := ⟨_, rfl⟩
  have hM50 : M ≤ 50 := by omega
  rw [hM] at HWD hnl
  have HNW := Lib.hid hnw
  have HNL := Lib.hid hnl
  have hJX : J < X2.heap.size := bP2.lt
  have HCR := Lib.hid (fun (w3 : World) (v : Value) (hb3 : Below X2.drew.heap.size X2.drew w3) (ho : w3.ownsRow X2.drew.heap.size 56 1 v M (u64s ns)) => col_row (HM3.out.below hb3) HZ.out ho HNL.out (by omega) HNW.out (fun g hg q => by
    have h1 := (ho.lt g hg).1
    have h2 := (HGE.out g q).2
    have h3 : X2.drew.heap.size = X2.heap.size := rfl
    omega))
  have q1 := bP2.cell
  clear m2 HMD hnow hb2X hTB2 hM2X hns hM hnl hnw HO1 HTB1 HM2 q0 hX1 hbX bP2
  gi_wp2_with fail
  clear hI hJ hb hX2
  refine wpIn_wide.2 ?_
  cases hr : reach now 0 W ns with
  | none =>
    have HR := Lib.hid hr
    clear hr
    have hs0 : TB w I W X2.drew ∧ Boxed X2.drew J 26 (.pointer (some ⟨b, 0, none⟩)) := ⟨HTB2.out.below (Below.refl _ _).drew, HBP.out⟩
    have hc0 := HBP.out.cell
    go_region_held3 (fun X => X.cell? ⟨J, 0, none⟩ = some (.pointer (some ⟨b, 0, none⟩)) ∧ (TB w I W X ∧ Boxed X J 26 (.pointer (some ⟨b, 0, none⟩))))
      (first | assumption | exact ⟨(by assumption), (by assumption)⟩)
      (first
        | (go_at_call 17; refine HWD.out.mono ?_; rintro e w3 ⟨v3, rfl, hown3, hb3⟩; have hs3 : TB w I W w3 ∧ Boxed w3 J 26 (.pointer (some ⟨b, 0, none⟩)) := ⟨hs0.1.below hb3, (hb3.block _ hs0.2.lt).trans hs0.2⟩; have hc3 := hs3.2.cell)
        | (go_at_call 19; refine (HCR.out _ _ (by assumption) (by assumption)).mono ?_; rintro e w4 hcol; obtain ⟨rfl, hb4⟩ := col_none hcol HR.out; have hs4 : TB w I W w4 ∧ Boxed w4 J 26 (.pointer (some ⟨b, 0, none⟩)) := ⟨hs3.1.below hb4, (hb4.block _ hs3.2.lt).trans hs3.2⟩; have hc4 := hs4.2.cell))
    have HHF := Lib.hid (half_any ((HM3.out.below hb3).below hb4))
    have HS4 := Lib.hid hs4
    clear hs0 hc0 hs3 hc3 hs4 hb3 hb4 hown3 hcol
    gi_wp2_with fail
    refine ⟨trivial, ?_⟩
    refine (callsIn_wide.2 HHF.out).mono ?_
    rintro e w5 ⟨rfl, hw5⟩
    subst w5
    clear hc4
    gi_wp2_with fail
    refine ⟨trivial, ?_⟩
    refine (callsIn_wide.2 (known_any _)).mono ?_
    rintro e wk ⟨rfl, hbk⟩
    have HTk := Lib.hid (HS4.out.1.below hbk)
    have hck := HTk.out.r.cell
    have hfk := HTk.out.r.frozen
    have hc9 : (wk.setCell ⟨w.heap.size, 0, none⟩ (.bool true)).cell? ⟨w.heap.size, 0, none⟩ = some (.bool true) := (HTk.out.r.set (.bool true)).cell
    gi_wp2_with fail
    refine ⟨.bool true, ?_, rfl, HTk.out.base.setCell (p := ⟨w.heap.size, 0, none⟩) (Nat.le_refl _) _⟩
    simp [results, Try.f9, go_sem, hc9]
  | some met =>
    have HR := Lib.hid hr
    have hok := reach_okm hr
    have hrn := reach_new (ex := []) HZ.out hr
    rw [List.append_nil] at hrn
    have HRL := Lib.hid (ren_lt HZ.out hok HNW.out)
    have HGD := Lib.hid (reach_good hr).1
    have HOK := Lib.hid hok
    have HRN2 := Lib.hid hrn
    clear hr hok hrn
    have hs0 : TB w I W X2.drew ∧ Boxed X2.drew J 26 (.pointer (some ⟨b, 0, none⟩)) := ⟨HTB2.out.below (Below.refl _ _).drew, HBP.out⟩
    have hc0 := HBP.out.cell
    go_region_held3 (fun X => X.cell? ⟨J, 0, none⟩ = some (.pointer (some ⟨b, 0, none⟩)) ∧ (TB w I W X ∧ Boxed X J 26 (.pointer (some ⟨b, 0, none⟩))))
      (first | assumption | exact ⟨(by assumption), (by assumption)⟩)
      (first
        | (go_at_call 17; refine HWD.out.mono ?_; rintro e w3 ⟨v3, rfl, hown3, hb3⟩; have hs3 : TB w I W w3 ∧ Boxed w3 J 26 (.pointer (some ⟨b, 0, none⟩)) := ⟨hs0.1.below hb3, (hb3.block _ hs0.2.lt).trans hs0.2⟩; have hc3 := hs3.2.cell)
        | (go_at_call 19; refine (HCR.out _ _ (by assumption) (by assumption)).mono ?_; rintro e w4 hcol; obtain ⟨v4, R4, rfl, x4, ho4, hg4⟩ := col_some hcol HR.out; have hs4 : TB w I W w4 ∧ Boxed w4 J 26 (.pointer (some ⟨b, 0, none⟩)) := ⟨hs3.1.fr x4.fr (fun i hi => by have := HGE.out i hi; omega) (fun q => by have := HGE.out _ q; omega), (x4.fr.block _ hs3.2.lt (fun q => by have := HGE.out _ q; omega)).trans hs3.2⟩; have hc4 := hs4.2.cell))
    have hlt3 : J < w3.heap.size := hs3.2.lt
    obtain ⟨n1, hn1⟩ : ∃ n1, newF 0 W now met = n1 := ⟨_, rfl⟩
    obtain ⟨o1, ho1⟩ : ∃ o1, oldK (1 - 0) W now met met = o1 := ⟨_, rfl⟩
    obtain ⟨ws, hws⟩ : ∃ ws, ns.map (renW 0 W now met) = ws := ⟨_, rfl⟩
    rw [hn1, ho1] at x4
    rw [hws, HNL.out] at ho4
    rw [hn1, hws] at HRN2
    rw [hws] at HRL
    have hwl : ws.length = M := by rw [← hws, List.length_map]; exact HNL.out
    have HX4 := Lib.hid (show MX w3 (Own b R2) b W 1 ⟨n1, o1⟩ w4 R4 from x4)
    have HZ4 := Lib.hid (show WF W 1 n1 o1 from x4.z)
    have HS4 := Lib.hid hs4
    have HO4 := Lib.hid ho4
    have HG4 := Lib.hid hg4
    have HWL := Lib.hid hwl
    have HN1 := Lib.hid hn1
    have HWS := Lib.hid hws
    have hOW4 : ∀ i, Own b R4 i → (b ≤ i ∧ i < J ∨ w3.heap.size ≤ i) ∧ i < w4.heap.size := fun i hi => ⟨by
      rcases x4.own i hi with q | q
      · exact .inl (HGE.out i q)
      · exact .inr q, HX4.out.m.own_lt i hi⟩
    have HOW4 := Lib.hid hOW4
    have HCP := Lib.hid (copy_any HX4.out.m HZ4.out.sizes)
    have h34 := HX4.out.fr.size
    clear hs0 hc0 hs3 hc3 hs4 hcol x4 ho4 hg4 hwl hn1 hws ho1 hOW4 hown3 HCR HWD
    gi_wp2_with fail
    refine ⟨trivial, ?_⟩
    refine (callsIn_wide.2 HCP.out).mono ?_
    rintro e w5 ⟨rfl, Vc, mc, oc, bc⟩
    have bK5 := Boxed.new w5 26 (.pointer (some ⟨w4.heap.size, 0, none⟩))
    obtain ⟨X5, hX5⟩ : ∃ X5, (w5.alloc (.cells #[.pointer (some ⟨w4.heap.size, 0, none⟩)] 26)) = X5 := ⟨_, rfl⟩
    have hb5X : Below w5.heap.size w5 X5 := by rw [← hX5]; exact (Below.refl _ w5).alloc (Nat.le_refl _) _
    rw [hX5] at bK5
    have hb45 : Below w4.heap.size w4 X5 := bc.trans (hb5X.mono bc.size)
    have HMO5 := Lib.hid (show Mem X5 w4.heap.size W 1 Vc n1 o1 from (show Mem w5 w4.heap.size W 1 Vc n1 o1 from mc).below hb5X)
    have HM5 := Lib.hid (HX4.out.m.below hb45)
    have HT5 := Lib.hid (HS4.out.1.below hb45)
    have HJ5 : Hid (Boxed X5 J 26 (.pointer (some ⟨b, 0, none⟩))) := (hb45.block _ HS4.out.2.lt).trans HS4.out.2
    have HK5 := Lib.hid bK5
    have HO5 := Lib.hid (own_below HO4.out hb45)
    have HOC := Lib.hid oc
    have HCR := Lib.hid (col_row HM5.out HZ4.out HO5.out HWL.out (by omega) HRL.out HG4.out)
    have h45 := bc.size
    have h5X := bK5.lt
    have cJ := HJ5.out.cell
    clear mc oc bc hb5X hb45 bK5 HCP
    gi_wp2_with fail
    refine ⟨trivial, ?_⟩
    refine (callsIn_wide.2 HCR.out).mono ?_
    rintro e w6 hcol
    obtain ⟨v6, R6, rfl, x6, ho6, hg6⟩ := col_some hcol HRN2.out
    obtain ⟨KN, hKN⟩ : ∃ KN, met.length = KN := ⟨_, rfl⟩
    rw [hKN] at x6 ho6
    obtain ⟨n2, hn2⟩ : ∃ n2, newF 1 W n1 (List.range KN) = n2 := ⟨_, rfl⟩
    obtain ⟨o2, ho2⟩ : ∃ o2, oldK (1 - 1) W n1 (List.range KN) (List.range KN) = o2 := ⟨_, rfl⟩
    obtain ⟨us, hus⟩ : ∃ us, ws.map (renW 1 W n1 (List.range KN)) = us := ⟨_, rfl⟩
    rw [hn2, ho2] at x6
    rw [hus, HWL.out] at ho6
    have hul : us.length = M := by rw [← hus, List.length_map]; exact HWL.out
    have huw : ∀ x ∈ us, x < 18446744073709551616 := by
      have h1 := okm_range n1
      rw [show n1.length = KN from by rw [← HN1.out, newF_length]; exact hKN] at h1
      rw [← hus]
      exact ren_lt HZ4.out h1 HRL.out
    have hx6 : MX X5 (Own b R4) b W 0 ⟨n2, o2⟩ w6 R6 := x6
    have hno : ∀ i, Own b R4 i → w.heap.size < i ∧ i ≠ I ∧ i ≠ J ∧ i < w4.heap.size := fun i hi => by
      have h1 := HOW4.out i hi
      refine ⟨?_, ?_, ?_, h1.2⟩ <;> rcases h1.1 with q | q <;> omega
    obtain ⟨a4, c4, rfl, hw4, _⟩ := wordsV_own (hx6.fr.own HO5.out HG4.out) HWL.out (by omega) HRL.out
    obtain ⟨a6, c6, rfl, hw6, _⟩ := wordsV_own ho6 hul (by omega) huw
    have hM6 : Mem w6 b W 0 R6 n2 o2 := hx6.m
    have HZ6 : Hid (WF W 0 n2 o2) := hx6.z
    have htw : TW w I J w5.heap.size b w4.heap.size W M Vc R6 n1 o1 n2 o2 a4 a6 ws us w6 :=
      ⟨HT5.out.fr hx6.fr (fun i hi => (hno i hi).1) (fun q => (hno _ q).2.1 rfl),
        (hx6.fr.block _ HJ5.out.lt (fun q => (hno _ q).2.2.1 rfl)).trans HJ5.out,
        (hx6.fr.block _ HK5.out.lt (fun q => by have := (hno _ q).2.2.2; omega)).trans HK5.out,
        HMO5.out.kept hx6.fr (fun i hi q => by have := HOC.out i hi; have := (hno _ q).2.2.2; omega), hM6, hw4, hw6⟩
    have HTW := Lib.hid htw
    have HKN := Lib.hid hKN
    have HN2 := Lib.hid hn2
    have HUS := Lib.hid hus
    obtain ⟨U, hU⟩ : ∃ U, used n1 = U := ⟨_, rfl⟩
    have hU2 : used n2 = U := by rw [← hn2, ← HN1.out, ← hKN, used_twice, HN1.out, hU]
    have hUW : U ≤ W := by rw [← hU]; exact HZ4.out.un
    have HU := Lib.hid hU
    have HU2 := Lib.hid hU2
    obtain ⟨A, hA⟩ : ∃ A : Int, (W : Int) - U = A := ⟨_, rfl⟩
    have hA1 : 0 ≤ A := by omega
    have hA2 : A ≤ 600 := by omega
    have HFF : Hid (∀ (p n : Nat), p = b ∨ p = w4.heap.size → Calls Try.prog 35 #[.pointer (some ⟨p, 0, none⟩)] (w6.drewN n) fun e w' => e = .returned (.int .i64 A) ∧ ∃ m, w' = (w6.drewN n).drewN m) := fun p n hp => by
      rcases hp with rfl | rfl
      · exact free_m (htw.m.drewN n) HZ6.out hU2 A hA
      · exact free_m (htw.mo.drewN n) HZ4.out hU A hA
    have HHF := Lib.hid (fun n => half_any (htw.m.drewN n))
    have cJ6 := htw.j.cell
    have cK6 := htw.k.cell
    have hMM : ((M : Int) != M) = false := by simp
    have hAA : (A != A) = false := by simp
    clear hcol x6 ho6 hg6 hKN hn2 ho2 hus hul huw hx6 hno hw4 hw6 hM6 htw hU hU2 hA cJ HCR HT5 HJ5 HK5 HO5 HOC HMO5 HM5 HOW4 h34 h45 h5X hlt3 hX5
    gi_wp2_with fail
    refine wpIn_wide.2 ?_
    go_quiet ((first
      | (go_at_call 35; refine Calls.quiet_of (HFF.out _ _ (by first | exact .inl rfl | exact .inr rfl)))
      | (go_at_call 31; refine Calls.quiet_of_same (HHF.out _))))
    obtain ⟨w7, hw7⟩ : ∃ w7, w6.drewN nq = w7 := ⟨_, rfl⟩
    have HT7 := Lib.hid (show TW w I J w5.heap.size b w4.heap.size W M Vc R6 n1 o1 n2 o2 a4 a6 ws us w7 from HTW.out.below (by rw [← hw7]; exact Below.drewN' (Below.refl _ _) nq))
    rw [hw7]
    clear hw7 cJ6 cK6 HFF HHF HTW hMM hAA
    have HIY := Lib.hid (fun (v : Nat) (q : Bool) (hv : v < 18446744073709551616) (hq : isIntB (v : Int) = q) (W1 : World) => (show Calls Try.prog 36 #[.int .u64 (v : Int)] W1 fun e w' => e = .returned (.bool q) ∧ w' = W1 from (refisint_any (v : Int) W1 (by omega) (by omega)).mono fun e w' ⟨h1, h2⟩ => ⟨by rw [h1, hq], h2.symm⟩))
    have HTP := Lib.hid (fun (v : Nat) (hv : v < 18446744073709551616) (W1 : World) => (show Calls Try.prog 37 #[.int .u64 (v : Int)] W1 fun e w' => e = .returned (.int .i64 (toP (v : Int))) ∧ w' = W1 from (reftoptr_any (v : Int) W1 (by omega) (by omega)).mono fun e w' ⟨h1, h2⟩ => ⟨h1, h2.symm⟩))
    have HWX := Lib.hid (show ∀ k, k < M → ∃ x y : Nat, ws[k]? = some x ∧ us[k]? = some y ∧ ((x % 2 = 1 ∧ y = x) ∨ (x % 2 ≠ 1 ∧ toP (y : Int) + W = toP (x : Int))) from fun k hk => by
      obtain ⟨n, hn⟩ : ∃ n, ns[k]? = some n := ⟨_, List.getElem?_eq_getElem (by rw [HNL.out]; exact hk)⟩
      have h1 := tw_word HZ.out HOK.out (od := o1) (by rw [HN1.out]; exact HZ4.out) (HGD.out n (List.mem_of_getElem? hn))
      rw [HN1.out, HKN.out] at h1
      refine ⟨_, _, by rw [← HWS.out, List.getElem?_map, hn]; rfl, by rw [← HUS.out, ← HWS.out, List.getElem?_map, List.getElem?_map, hn]; rfl, h1⟩)
    gi_wp2_with fail
    gi_loopw [13] (fun i wr => ∃ k : Nat, k ≤ M ∧ i = .int .i64 k ∧ TW w I J w5.heap.size b w4.heap.size W M Vc R6 n1 o1 n2 o2 a4 a6 ws us wr) (fun i _ => M - (intOf i).toNat)
    case atStart => exact ⟨0, Nat.zero_le _, rfl, HT7.out⟩
    case round =>
      obtain ⟨k, hk, rfl, htk⟩ := hrel
      clear HT7
      by_cases hlt : k < M
      · obtain ⟨x, y, hx, hy, hxy⟩ := HWX.out k hlt
        have hx64 := htk.r4.word x (List.mem_of_getElem? hx)
        have hy64 := htk.r6.word y (List.mem_of_getElem? hy)
        obtain ⟨g4, f4, rfl, _, hc4⟩ := htk.r4.cell k x hx
        obtain ⟨g6, f6, rfl, _, hc6⟩ := htk.r6.cell k y hy
        have ci := htk.tb.i.cell
        have HTK := Lib.hid htk
        have hk0 : (0 : Int) ≤ k := by omega
        have hk1 : (k : Int) < M := by omega
        have hge1 : decide (M ≤ k) = false := decide_eq_false (by omega)
        have hge2 : decide ((M : Int) ≤ (k : Int)) = false := decide_eq_false (by omega)
        clear htk hx hy
        rcases hxy with ⟨h1, rfl⟩ | ⟨h1, h2⟩
        · have HI := Lib.hid (HIY.out y true hx64 (by unfold isIntB; simpa using by omega))
          have hne : ((y : Int) != y) = false := by simp
          clear h1
          gi_wp2_with fail
          refine wpIn_wide.2 ?_
          go_quiet ((first
            | (go_at_call 36; refine Calls.quiet_of_same (HI.out _))
            | (go_at_call 37; refine Calls.quiet_of_same (HTP.out _ (by omega) _))))
          gi_wp2_with fail
          exact ⟨⟨k + 1, hlt, by go_num, HTK.out.below (Below.drewN' (Below.refl _ _) _)⟩, by simp [intOf]; omega⟩
        · have HI := Lib.hid (HIY.out x false hx64 (by unfold isIntB; simpa using by omega))
          have hpx := toP_le (x : Int)
          have hsum : IntKind.i64.wrap (toP (y : Int) + W) = toP (x : Int) := by rw [IntKind.wrap_i64]; omega
          have hne : (toP (x : Int) != toP (x : Int)) = false := by simp
          clear h1 h2 hpx
          gi_wp2_with fail
          refine wpIn_wide.2 ?_
          go_quiet ((first
            | (go_at_call 36; refine Calls.quiet_of_same (HI.out _))
            | (go_at_call 37; refine Calls.quiet_of_same (HTP.out _ (by omega) _))))
          gi_wp2_with fail
          exact ⟨⟨k + 1, hlt, by go_num, HTK.out.below (Below.drewN' (Below.refl _ _) _)⟩, by simp [intOf]; omega⟩
      · have hk1 : ¬ (k : Int) < M := by omega
        have cK := htk.k.cell
        have HTK := Lib.hid htk
        clear htk HIY HTP HWX
        gi_wp2_with (refine ⟨trivial, ?_⟩; gi_at_call 34; refine (objects_boxT Fence.wide _ trivial rfl _ _).mono ?_; rintro e w' ⟨rfl, rfl⟩)
        have bO := Boxed.new wr 26 (.pointer (some ⟨w4.heap.size, 0, none⟩))
        obtain ⟨w8, hw8⟩ : ∃ w8, wr.alloc (.cells #[.pointer (some ⟨w4.heap.size, 0, none⟩)] 26) = w8 := ⟨_, rfl⟩
        have HT8 := Lib.hid (HTK.out.below (show Below wr.heap.size wr w8 from by rw [← hw8]; exact (Below.refl _ wr).alloc (Nat.le_refl _) _))
        rw [hw8] at bO ⊢
        have hlo := bO.lt
        have HBO := Lib.hid bO
        clear hw8 bO cK HTK
        refine wpIn_rangeFunc_ownG rfl (by omega) (gf := 65) (lb := #[.pointer (some ⟨wr.heap.size, 0, none⟩)]) rfl trivial (enters_of Try.func65 (by kernel_rfl) rfl)
          (objects_stops (5 - 1) (by omega) wr.heap.size w4.heap.size W 1 Vc n1 o1 HZ4.out w8 HBO.out HT8.out.mo) keepO_t (keepO_b hlo) (Below.refl _ _) (fun _ => rfl)
          (fun _ W' => Boxed W' wr.heap.size 26 (.pointer (some ⟨w4.heap.size, 0, none⟩)) ∧ Below w8.heap.size w8 W')
          (fun c pre _ => c = .ret ∧ ∃ x ∈ pre, KN ≤ x)
          (OwnFrom.and (Own.from (boxed_own wr.heap.size 26 (fun (_ : List Nat) => .pointer (some ⟨w4.heap.size, 0, none⟩))) _) (ownFrom_below (Nat.le_refl _) (Nat.le_refl _)))
          (fun _ _ _ _ _ hs _ _ => hs)
          ⟨HBO.out, Below.refl _ _⟩
          ?a1 ?assign ?body ?done ?stop
        case assign =>
          intro l x W' K' hK'
          gi_wp2
          exact hK'
        case body =>
          rintro l pre x W' ⟨ho, hB⟩ hlt
          have htx := HT8.out.below hB
          have cJ := htx.j.cell
          have cK := htx.k.cell
          have cI := htx.tb.i.cell
          have hxs : start n1 x ≤ U := by
            rw [← HU.out]
            by_cases q : x ≤ n1.length
            · exact start_le_used q
            · rw [start_big n1 (by omega)]; exact Nat.le_refl _
          have hox : objA 1 W n1 x = ((W + start n1 x + 1 : Nat) : Int) := by
            show adr 1 W (start n1 x : Nat) = _
            rw [adr_1]; omega
          have hW6 : W ≤ 600 := hWb.2
          have HP := Lib.hid (fun (z : Int) (W1 : World) => (show Calls Try.prog 38 #[.int .i64 z] W1 fun e w' => e = .returned (.int .u64 (ptrW z)) ∧ w' = W1 from (refptr_any z W1).mono fun e w' ⟨h1, h2⟩ => ⟨h1, h2.symm⟩))
          obtain ⟨ox, hoe⟩ : ∃ y, objA 1 W n1 x = y := ⟨_, rfl⟩
          rw [hoe] at hox ⊢
          have hsub : IntKind.i64.wrap (ox - W) = ox - W := by rw [IntKind.wrap_i64]; omega
          have HTX := Lib.hid htx
          have HB := Lib.hid hB
          have HO := Lib.hid ho
          have hxl : KN ≤ x ∨ x < KN := by omega
          rcases hxl with hx | hx
          · obtain ⟨u, v, hu, hv, hu64, hv64, hue, hve, hlk⟩ := tw_end (o1 := o1) (met := met) (now := now) (W := W) (by rw [HN1.out, HU.out]; exact hUW) (by omega) (x := x) (by rw [HKN.out]; exact hx)
            rw [HN1.out, hoe] at hu hv
            rw [HN1.out] at hlk
            have HPU := Lib.hid (HP.out ox)
            have HPV := Lib.hid (HP.out (ox - W))
            rw [hu] at HPU
            rw [hv] at HPV
            have HAL := Lib.hid (fun n => alike_miss (s := ⟨n1, o1⟩) (s2 := ⟨n2, o2⟩) (htx.mo.drewN n) HZ4.out (htx.m.drewN n) HZ6.out hu64 hv64 hue hve hlk)
            have HX := Lib.hid hx
            have hci0 := htx.tb.r.cell
            have hfi0 := htx.tb.r.frozen
            clear htx hB ho hox hu hv hu64 hv64 hue hve hlk hx hxs hoe HP
            gi_wp2_with fail
            refine wpIn_region_quiet_round (by kernel_rfl) (by kernel_rfl) (by kernel_rfl) ?_
            refine wpQuietIn_round _ _ ?_
            repeat (go_big_quiet_step ((first
              | (go_at_call 38; with_reducible exact Calls.quiet_of_same (HPU.out _))
              | (go_at_call 38; with_reducible exact Calls.quiet_of_same (HPV.out _))
              | (go_at_call 33; with_reducible exact Calls.quiet_of (HAL.out _)))))
            refine wpQuiet_nil ?_
            intro _ hw'
            obtain ⟨nq, hw''⟩ := hw'
            subst hw''
            gi_wp2_with fail
            exact ⟨((keepsOthers_drewN W' nq).trans (KeepsOthers.setCell _ _ _)).from _, rfl, x, by simp, HX.out⟩
          · obtain ⟨u, v, hu, hv, hu64, hv64, hal⟩ := tw_alike (o1 := o1) (o2 := o2) (od := o1) HOK.out (by rw [HN1.out]; exact HZ4.out) (x := x) (by rw [HKN.out]; exact hx)
            rw [HN1.out, hoe] at hu hv
            rw [HN1.out, HKN.out, HN2.out] at hal
            have HPU := Lib.hid (HP.out ox)
            have HPV := Lib.hid (HP.out (ox - W))
            rw [hu] at HPU
            rw [hv] at HPV
            have HAL := Lib.hid (fun n => alike_any (s := ⟨n1, o1⟩) (s2 := ⟨n2, o2⟩) (htx.mo.drewN n) HZ4.out (htx.m.drewN n) HZ6.out hu64 hv64 hal)
            clear htx hB ho hox hu hv hu64 hv64 hal hx hxs hoe HP
            gi_wp2_with fail
            refine wpIn_region_quiet_round (by kernel_rfl) (by kernel_rfl) (by kernel_rfl) ?_
            refine wpQuietIn_round _ _ ?_
            repeat (go_big_quiet_step ((first
              | (go_at_call 38; with_reducible exact Calls.quiet_of_same (HPU.out _))
              | (go_at_call 38; with_reducible exact Calls.quiet_of_same (HPV.out _))
              | (go_at_call 33; with_reducible exact Calls.quiet_of (HAL.out _)))))
            refine wpQuiet_nil ?_
            intro _ hw'
            obtain ⟨nq, hw''⟩ := hw'
            subst hw''
            gi_wp2_with fail
            exact ⟨(keepsOthers_drewN W' nq).from _, fun hx hy => ⟨hx, MemV.kept hy ((Fr.refl (fun _ => False) W').drewN nq) (fun _ _ => id)⟩, HO.out, Below.drewN' HB.out nq⟩
        case done =>
          rintro D ys W' hD rfl ⟨ho, hB⟩ hK
          have htx := HT8.out.below hB
          have HTX := Lib.hid htx
          have HKD := Lib.hid hK
          clear htx hK ho
          gi_wp2_with fail
          refine ⟨trivial, ?_⟩
          refine (callsIn_wide.2 (known_any _)).mono ?_
          rintro e wk ⟨rfl, hbk⟩
          have HTk := Lib.hid (HTX.out.below hbk)
          have hck := HTk.out.tb.r.cell
          have hfk := HTk.out.tb.r.frozen
          have HKk := Lib.hid (show wk.heap[D]? = some (.deferred (some [])) from (hbk.block D (Array.getElem?_eq_some_iff.1 HKD.out).1).trans HKD.out)
          have hDw : w.heap.size < D := by
            have h1 := HT8.out.tb.r.lt
            omega
          clear hbk
          gi_wp2_with fail
          have hc9 : (wk.setCell ⟨w.heap.size, 0, none⟩ (.bool true)).cell? ⟨w.heap.size, 0, none⟩ = some (.bool true) := (HTk.out.tb.r.set (.bool true)).cell
          have hK' : (wk.setCell ⟨w.heap.size, 0, none⟩ (.bool true)).heap[D]? = some (.deferred (some [])) := (Below.heap_setCell wk _ _ D (by show D ≠ w.heap.size; omega)).trans HKk.out
          refine ⟨by simp, .inl ⟨_, _, rfl, run_takeDeferred hK', ?_⟩⟩
          have hc10 := cell_kept hc9 (grownBy_putObj' _ D (.deferred none)) (fun r e => by cases e; exact ⟨_, hK', rfl⟩)
          refine ⟨.bool true, ?_, rfl, (HTk.out.tb.base.setCell (p := ⟨w.heap.size, 0, none⟩) (Nat.le_refl _) _).trans (belowK_b (w := w) (Nat.le_refl _) _ D _ _ (by omega) hK' rfl rfl)⟩
          simp [results, Try.f9, go_sem, hc10]
        case stop =>
          rintro D c pre W' _ ⟨q, hq, rfl⟩ ⟨rfl, x, hx, hxk⟩ _
          have h1 := List.mem_range.1 hx
          have h2 : n1.length = KN := by rw [← HN1.out, newF_length]; exact HKN.out
          omega
end Go.Proofs.Ytjdhjehnofediaa
