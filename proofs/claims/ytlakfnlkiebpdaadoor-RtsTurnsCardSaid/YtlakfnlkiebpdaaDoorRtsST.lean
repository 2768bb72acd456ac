/- The contract of the document's same on any two words, and of Same. Conditions: the memory lies as RW says; its objects have at most a thousand words. -/
import Derived.Deep.RegionHeld3
import Derived.Test.YtlakfnlkiebpdaaDoorRtsSR
namespace Go.Proofs.YtlakfnlkiebpdaaDoor
open Go Go.RowKit
theorem pb5 {A B C D E : Prop} (h : A ∧ B ∧ C ∧ D ∧ E) : E := h.2.2.2.2
theorem wordAt {X : World} {g c L k : Nat} {ws : List Nat} (ho : X.ownsRow 0 33 1 (.slice (some ⟨g, 0, none⟩) L c) L (u64s ws)) (hL : ws.length = L) (hk : k < L) : X.cell? ⟨g, k, none⟩ = some (.int .u64 ((ws.getD k 0 : Nat) : Int)) := by
  rw [ho.cellAt k (by omega)]
  unfold u64s
  rw [List.getElem?_map, List.getElem?_eq_getElem (by omega), List.getD_eq_getElem?_getD, List.getElem?_eq_getElem (by omega)]
  rfl
theorem own_some1 {X : World} {va : Option Addr} {L c : Nat} {xs : List Value} (ho : X.ownsRow 0 33 1 (.slice va L c) L xs) (h : 0 < L) : ∃ g, va = some ⟨g, 0, none⟩ := by
  rcases ho.2 with ⟨_, h0⟩ | ⟨g, cap, cur, h0, _⟩
  · omega
  · injection h0 with h1 _ _; exact ⟨g, h1⟩
theorem drop_two {L : Nat → Nat → Nat ⊕ (List Nat × List Nat)} {ws1 ws2 : List Nat} {k l : Nat} (h1 : k < ws1.length) (h2 : k < ws2.length) : fieldsN L (ws1.drop k) (ws2.drop k) l = if (sameN L (ws1.getD k 0) (ws2.getD k 0) l).1 = 1 then fieldsN L (ws1.drop (k + 1)) (ws2.drop (k + 1)) (sameN L (ws1.getD k 0) (ws2.getD k 0) l).2 else sameN L (ws1.getD k 0) (ws2.getD k 0) l := by
  rw [List.drop_eq_getElem_cons h1, List.drop_eq_getElem_cons h2, fieldsN_cons]
  simp [List.getD_eq_getElem?_getD, List.getElem?_eq_getElem h1, List.getElem?_eq_getElem h2]
section
variable {w0 w : World} {b W : Nat} {os : List Ob} {v : Value} {P : List (RO × Value)}
/-- what same answers -/
def RSame (r : Nat × Nat) (w : World) (e : Ending) (w' : World) : Prop := e = .returned (.tuple #[.int .i64 (r.1 : Int), .int .i64 (r.2 : Int)]) ∧ Below w.heap.size w w'
set_option maxRecDepth 100000 in
set_option maxHeartbeats 32000000 in
theorem rsame_hit (x : RW w0 b W os w v P) (hos : ∀ o ∈ os, o.ws.length ≤ 1000) (a c n : Nat) (ha64 : a < 18446744073709551616) (hc64 : c < 18446744073709551616) (hn : n ≤ 3000) {i j : Nat} (hi : idxAt os 0 W (toP (a : Int)) = some i) (hj : idxAt os 0 W (toP (c : Int)) = some j)
    (ih : ∀ (w1 : World), RW w0 b W os w1 v P → ∀ a c l : Nat, a < 18446744073709551616 → c < 18446744073709551616 → l ≤ n → Calls Tryd.prog 65 #[.pointer (some ⟨b, 0, none⟩), .int .u64 (a : Int), .int .u64 (c : Int), .int .i64 (l : Int)] w1 (RSame (sameN (lookS os 0 W) a c l) w1)) :
    Calls Tryd.prog 65 #[.pointer (some ⟨b, 0, none⟩), .int .u64 (a : Int), .int .u64 (c : Int), .int .i64 ((n : Int) + 1)] w (RSame (sameN (lookS os 0 W) a c (n + 1)) w) := by
  obtain ⟨u1, hp1⟩ := P_get x.e (idx_ob hi)
  obtain ⟨u2, hp2⟩ := P_get x.e (idx_ob hj)
  have HOA := Lib.hid (refobj_hit x a ha64 hi hp1)
  have HOC := Lib.hid (fun (W1 : World) (hb : Below w.heap.size w W1) => refobj_hit (x.below hb) c hc64 hj hp2)
  have hr1 : ∀ W1, Below w.heap.size w W1 → W1.ownsRow 0 33 1 u1 (obN os i).ws.length (u64s (obN os i).ws) := fun W1 hb => (x.below hb).r.l1.ws _ (List.mem_of_getElem? hp1)
  have hr2 : ∀ W1, Below w.heap.size w W1 → W1.ownsRow 0 33 1 u2 (obN os j).ws.length (u64s (obN os j).ws) := fun W1 hb => (x.below hb).r.l1.ws _ (List.mem_of_getElem? hp2)
  have hadr : objA 0 W os i = objA 0 W os j ↔ i = j := by
    constructor
    · intro q
      have h1 := idxAt_of (os := os) (h := 0) (W := W) (idxAt_some hi).1
      have h2 := idxAt_of (os := os) (h := 0) (W := W) (idxAt_some hj).1
      unfold objA at q
      rw [q, h2] at h1
      exact (Option.some.inj h1).symm
    · intro q; rw [q]
  have hl1 := hos _ (List.mem_of_getElem? (idx_ob hi))
  have hl2 := hos _ (List.mem_of_getElem? (idx_ob hj))
  have hw1 := (x.z.okn _ (List.mem_of_getElem? (idx_ob hi))).word
  have hw2 := (x.z.okn _ (List.mem_of_getElem? (idx_ob hj))).word
  have hst : sameN (lookS os 0 W) a c (n + 1) = (match (if isC (obN os i).k = true ∨ isC (obN os j).k = true then .inl 2
    else if (obN os i).k ≠ (obN os j).k then .inl 0
    else if (obN os i).k = 2 then .inl (if i = j then 1 else 0)
    else if (obN os i).ws.length ≠ (obN os j).ws.length then .inl 0
    else if (obN os i).k = 4 then .inl (if (obN os i).ws = (obN os j).ws then 1 else 0)
    else .inr ((obN os i).ws, (obN os j).ws) : Nat ⊕ (List Nat × List Nat)) with
    | .inl k => (k, n)
    | .inr p => fieldsN (lookS os 0 W) p.1 p.2 n) := by
    rw [sameN_succ]
    have : lookS os 0 W a c = (if isC (obN os i).k = true ∨ isC (obN os j).k = true then .inl 2
    else if (obN os i).k ≠ (obN os j).k then .inl 0
    else if (obN os i).k = 2 then .inl (if i = j then 1 else 0)
    else if (obN os i).ws.length ≠ (obN os j).ws.length then .inl 0
    else if (obN os i).k = 4 then .inl (if (obN os i).ws = (obN os j).ws then 1 else 0)
    else .inr ((obN os i).ws, (obN os j).ws) : Nat ⊕ (List Nat × List Nat)) := by
      unfold lookS
      rw [hi, hj]
    rw [this]
    rfl
  have HIA := Lib.hid (refisint_eq a ha64 false (idx_even hi))
  have HIC := Lib.hid (refisint_eq c hc64 false (idx_even hj))
  have HIH := Lib.hid (fun (W1 : World) (hb : Below w.heap.size w W1) => ih W1 (x.below hb))
  obtain ⟨res, hres⟩ : ∃ res, sameN (lookS os 0 W) a c (n + 1) = res := ⟨_, rfl⟩
  rw [hres] at hst ⊢
  obtain ⟨o1, ho1⟩ : ∃ o, obN os i = o := ⟨_, rfl⟩
  obtain ⟨o2, ho2⟩ : ∃ o, obN os j = o := ⟨_, rfl⟩
  rw [ho1] at HOA hr1 hl1 hw1 hst
  rw [ho2] at HOC hr2 hl2 hw2 hst
  obtain ⟨A1, hA1⟩ : ∃ A, objA 0 W os i = A := ⟨_, rfl⟩
  obtain ⟨A2, hA2⟩ : ∃ A, objA 0 W os j = A := ⟨_, rfl⟩
  rw [hA1, hA2] at hadr
  obtain ⟨T1, hT1⟩ : ∃ T : Int, (o1.t : Int) = T := ⟨_, rfl⟩
  obtain ⟨T2, hT2⟩ : ∃ T : Int, (o2.t : Int) = T := ⟨_, rfl⟩
  obtain ⟨X1, hX1⟩ : ∃ T : Int, o1.to = T := ⟨_, rfl⟩
  obtain ⟨X2, hX2⟩ : ∃ T : Int, o2.to = T := ⟨_, rfl⟩
  have e1 : roVal (roOf (objA 0 W os i) o1, u1) = .agg #[.int .i64 A1, .int .i64 (o1.k : Int), .int .i64 T1, u1, .int .i64 X1] := by rw [← hA1, ← hT1, ← hX1]; rfl
  have e2 : roVal (roOf (objA 0 W os j) o2, u2) = .agg #[.int .i64 A2, .int .i64 (o2.k : Int), .int .i64 T2, u2, .int .i64 X2] := by rw [← hA2, ← hT2, ← hX2]; rfl
  rw [e1] at HOA
  rw [e2] at HOC
  obtain ⟨va1, vc1, rfl, hvl1, _⟩ := own_shape5 (hr1 w (Below.refl _ _))
  obtain ⟨va2, vc2, rfl, hvl2, _⟩ := own_shape5 (hr2 w (Below.refl _ _))
  obtain ⟨k1, hk1⟩ : ∃ k, o1.k = k := ⟨_, rfl⟩
  obtain ⟨k2, hk2⟩ : ∃ k, o2.k = k := ⟨_, rfl⟩
  obtain ⟨ws1, hws1⟩ : ∃ k, o1.ws = k := ⟨_, rfl⟩
  obtain ⟨ws2, hws2⟩ : ∃ k, o2.ws = k := ⟨_, rfl⟩
  rw [hk1] at HOA
  rw [hk2] at HOC
  rw [hws1] at HOA hr1 hl1 hw1 hvl1
  rw [hws2] at HOC hr2 hl2 hw2 hvl2
  rw [hk1, hk2, hws1, hws2] at hst
  obtain ⟨L1, hL1⟩ : ∃ k, ws1.length = k := ⟨_, rfl⟩
  obtain ⟨L2, hL2⟩ : ∃ k, ws2.length = k := ⟨_, rfl⟩
  rw [hL1] at HOA hr1 hl1 hst hvl1
  rw [hL2] at HOC hr2 hl2 hst hvl2
  have HR1 := Lib.hid hr1
  have HR2 := Lib.hid hr2
  have HW1 := Lib.hid hw1
  have HW2 := Lib.hid hw2
  have HL1 := Lib.hid hL1
  have HL2 := Lib.hid hL2
  have HADR := Lib.hid hadr
  have HST := Lib.hid hst
  clear x hos ih hp1 hp2 hi hj hr1 hr2 hw1 hw2 hres ho1 ho2 hA1 hA2 hT1 hT2 hX1 hX2 e1 e2 hk1 hk2 hws1 hws2 hL1 hL2 hst hadr
  unfold RSame
  have hnk : (0 : Int) ≤ n := by omega
  -- ways by what the objects are
  have main : ∀ (hc31 hc51 hc32 hc52 : Bool), ((k1 : Int) == 3) = hc31 → ((k1 : Int) == 5) = hc51 → ((k2 : Int) == 3) = hc32 → ((k2 : Int) == 5) = hc52 → (isC k1 = (hc31 || hc51)) → (isC k2 = (hc32 || hc52)) →
      Calls Tryd.prog 65 #[.pointer (some ⟨b, 0, none⟩), .int .u64 (a : Int), .int .u64 (c : Int), .int .i64 ((n : Int) + 1)] w fun e w' => e = .returned (.tuple #[.int .i64 (res.1 : Int), .int .i64 (res.2 : Int)]) ∧ Below w.heap.size w w' := by
    intro hc31 hc51 hc32 hc52 q31 q51 q32 q52 qc1 qc2
    have HC1 := Lib.hid qc1
    have HC2 := Lib.hid qc2
    clear qc1 qc2
    by_cases hcode : (hc31 || hc51 || hc32 || hc52) = true
    · have hr : res = (2, n) := by
        have := HST.out
        rw [if_pos (by rw [HC1.out, HC2.out]; revert hcode; cases hc31 <;> cases hc51 <;> cases hc32 <;> cases hc52 <;> simp)] at this
        exact this
      have HR := Lib.hid hr
      clear hr HC1 HC2
      cases hc31 <;> cases hc51 <;> cases hc32 <;> cases hc52 <;> first | (exact absurd hcode (by decide)) | skip
      all_goals
        clear hcode
        go_enter Tryd.func65, Tryd.ntmps65
        go_wp2_with fail
        refine (HOA.out).mono ?_
        rintro e w1 ⟨rfl, hb1⟩
        have hB2 := hb1.alloc hb1.size (.cells #[.int .i64 A1, .int .i64 (k1 : Int), .int .i64 T1, .slice va1 L1 vc1, .int .i64 X1] 91)
        have HB2 := Lib.hid hB2
        clear hb1 hB2
        go_wp2_with fail
        refine (HOC.out _ HB2.out).mono ?_
        rintro e w2 ⟨rfl, hb2⟩
        have hbk : w2.heap[w1.heap.size]? = some (.cells #[.int .i64 A1, .int .i64 (k1 : Int), .int .i64 T1, .slice va1 L1 vc1, .int .i64 X1] 91 (0, 0)) := (hb2.block _ (by rw [World.size_alloc]; omega)).trans (heap_alloc_new w1 _)
        have HB3 := Lib.hid ((HB2.out.trans (hb2.mono HB2.out.size)).alloc (HB2.out.trans (hb2.mono HB2.out.size)).size (.cells #[.int .i64 A2, .int .i64 (k2 : Int), .int .i64 T2, .slice va2 L2 vc2, .int .i64 X2] 91))
        have hbk3 := (Below.heap_alloc w2 (.cells #[.int .i64 A2, .int .i64 (k2 : Int), .int .i64 T2, .slice va2 L2 vc2, .int .i64 X2] 91) w1.heap.size (Array.getElem?_eq_some_iff.1 hbk).1).trans hbk
        have b1 := blk_cell hbk3 1
        clear hb2 hbk hbk3
        go_wp2_with fail
        refine (HIA.out _).mono ?_
        rintro e w1 ⟨rfl, hw1⟩
        subst w1
        go_wp2_with fail
        refine (HIC.out _).mono ?_
        rintro e w1 ⟨rfl, hw1⟩
        subst w1
        go_wp2_with fail
        go_ret2
        exact ⟨by rw [HR.out]; rfl, HB3.out⟩
    · have hcode2 : hc31 = false ∧ hc51 = false ∧ hc32 = false ∧ hc52 = false := by revert hcode; cases hc31 <;> cases hc51 <;> cases hc32 <;> cases hc52 <;> simp
      obtain ⟨rfl, rfl, rfl, rfl⟩ := hcode2
      have hst := HST.out
      rw [if_neg (by rw [HC1.out, HC2.out]; simp)] at hst
      clear hcode HC1 HC2
      by_cases hk : k1 ≠ k2
      · have hkB : ((k1 : Int) != (k2 : Int)) = true := by simp; omega
        rw [if_pos hk] at hst
        have HR := Lib.hid (show res = (0, n) from hst)
        clear hst hk
        go_enter Tryd.func65, Tryd.ntmps65
        go_wp2_with fail
        refine (HOA.out).mono ?_
        rintro e w1 ⟨rfl, hb1⟩
        have hB2 := hb1.alloc hb1.size (.cells #[.int .i64 A1, .int .i64 (k1 : Int), .int .i64 T1, .slice va1 L1 vc1, .int .i64 X1] 91)
        have HB2 := Lib.hid hB2
        clear hb1 hB2
        go_wp2_with fail
        refine (HOC.out _ HB2.out).mono ?_
        rintro e w2 ⟨rfl, hb2⟩
        have hbk : w2.heap[w1.heap.size]? = some (.cells #[.int .i64 A1, .int .i64 (k1 : Int), .int .i64 T1, .slice va1 L1 vc1, .int .i64 X1] 91 (0, 0)) := (hb2.block _ (by rw [World.size_alloc]; omega)).trans (heap_alloc_new w1 _)
        have HB3 := Lib.hid ((HB2.out.trans (hb2.mono HB2.out.size)).alloc (HB2.out.trans (hb2.mono HB2.out.size)).size (.cells #[.int .i64 A2, .int .i64 (k2 : Int), .int .i64 T2, .slice va2 L2 vc2, .int .i64 X2] 91))
        have hbk3 := (Below.heap_alloc w2 (.cells #[.int .i64 A2, .int .i64 (k2 : Int), .int .i64 T2, .slice va2 L2 vc2, .int .i64 X2] 91) w1.heap.size (Array.getElem?_eq_some_iff.1 hbk).1).trans hbk
        have HBK3 := Lib.hid hbk3
        have HBN := Lib.hid (heap_alloc_new w2 (.cells #[.int .i64 A2, .int .i64 (k2 : Int), .int .i64 T2, .slice va2 L2 vc2, .int .i64 X2] 91))
        have b0 := blk_cell hbk3 0
        have b1 := blk_cell hbk3 1
        have b3 := blk_cell hbk3 3
        clear hb2 hbk hbk3
        go_wp2_with fail
        refine (HIA.out _).mono ?_
        rintro e w1 ⟨rfl, hw1⟩
        subst w1
        go_wp2_with fail
        refine (HIC.out _).mono ?_
        rintro e w1 ⟨rfl, hw1⟩
        subst w1
        go_wp2_with fail
        go_ret2
        exact ⟨by rw [HR.out]; rfl, HB3.out⟩
      rw [if_neg hk] at hst
      have hk : k1 = k2 := Classical.not_not.1 hk
      have hkB : ((k1 : Int) != (k2 : Int)) = false := by simp; omega
      have HK := Lib.hid hk
      clear hk
      by_cases h2 : k1 = 2
      · have h2B : ((k1 : Int) == 2) = true := by simp; omega
        rw [if_pos h2] at hst
        clear h2
        by_cases hA : A1 = A2
        · have hAB : (A1 == A2) = true := by simp [hA]
          rw [if_pos (HADR.out.1 hA)] at hst
          have HR := Lib.hid (show res = (1, n) from hst)
          clear hst hA
          go_enter Tryd.func65, Tryd.ntmps65
          go_wp2_with fail
          refine (HOA.out).mono ?_
          rintro e w1 ⟨rfl, hb1⟩
          have hB2 := hb1.alloc hb1.size (.cells #[.int .i64 A1, .int .i64 (k1 : Int), .int .i64 T1, .slice va1 L1 vc1, .int .i64 X1] 91)
          have HB2 := Lib.hid hB2
          clear hb1 hB2
          go_wp2_with fail
          refine (HOC.out _ HB2.out).mono ?_
          rintro e w2 ⟨rfl, hb2⟩
          have hbk : w2.heap[w1.heap.size]? = some (.cells #[.int .i64 A1, .int .i64 (k1 : Int), .int .i64 T1, .slice va1 L1 vc1, .int .i64 X1] 91 (0, 0)) := (hb2.block _ (by rw [World.size_alloc]; omega)).trans (heap_alloc_new w1 _)
          have HB3 := Lib.hid ((HB2.out.trans (hb2.mono HB2.out.size)).alloc (HB2.out.trans (hb2.mono HB2.out.size)).size (.cells #[.int .i64 A2, .int .i64 (k2 : Int), .int .i64 T2, .slice va2 L2 vc2, .int .i64 X2] 91))
          have hbk3 := (Below.heap_alloc w2 (.cells #[.int .i64 A2, .int .i64 (k2 : Int), .int .i64 T2, .slice va2 L2 vc2, .int .i64 X2] 91) w1.heap.size (Array.getElem?_eq_some_iff.1 hbk).1).trans hbk
          have HBK3 := Lib.hid hbk3
          have HBN := Lib.hid (heap_alloc_new w2 (.cells #[.int .i64 A2, .int .i64 (k2 : Int), .int .i64 T2, .slice va2 L2 vc2, .int .i64 X2] 91))
          have b0 := blk_cell hbk3 0
          have b1 := blk_cell hbk3 1
          have b3 := blk_cell hbk3 3
          clear hb2 hbk hbk3
          go_wp2_with fail
          refine (HIA.out _).mono ?_
          rintro e w1 ⟨rfl, hw1⟩
          subst w1
          go_wp2_with fail
          refine (HIC.out _).mono ?_
          rintro e w1 ⟨rfl, hw1⟩
          subst w1
          go_wp2_with fail
          go_ret2
          exact ⟨by rw [HR.out]; rfl, HB3.out⟩
        · have hAB : (A1 == A2) = false := by simp [hA]
          rw [if_neg (fun q => hA (HADR.out.2 q))] at hst
          have HR := Lib.hid (show res = (0, n) from hst)
          clear hst hA
          go_enter Tryd.func65, Tryd.ntmps65
          go_wp2_with fail
          refine (HOA.out).mono ?_
          rintro e w1 ⟨rfl, hb1⟩
          have hB2 := hb1.alloc hb1.size (.cells #[.int .i64 A1, .int .i64 (k1 : Int), .int .i64 T1, .slice va1 L1 vc1, .int .i64 X1] 91)
          have HB2 := Lib.hid hB2
          clear hb1 hB2
          go_wp2_with fail
          refine (HOC.out _ HB2.out).mono ?_
          rintro e w2 ⟨rfl, hb2⟩
          have hbk : w2.heap[w1.heap.size]? = some (.cells #[.int .i64 A1, .int .i64 (k1 : Int), .int .i64 T1, .slice va1 L1 vc1, .int .i64 X1] 91 (0, 0)) := (hb2.block _ (by rw [World.size_alloc]; omega)).trans (heap_alloc_new w1 _)
          have HB3 := Lib.hid ((HB2.out.trans (hb2.mono HB2.out.size)).alloc (HB2.out.trans (hb2.mono HB2.out.size)).size (.cells #[.int .i64 A2, .int .i64 (k2 : Int), .int .i64 T2, .slice va2 L2 vc2, .int .i64 X2] 91))
          have hbk3 := (Below.heap_alloc w2 (.cells #[.int .i64 A2, .int .i64 (k2 : Int), .int .i64 T2, .slice va2 L2 vc2, .int .i64 X2] 91) w1.heap.size (Array.getElem?_eq_some_iff.1 hbk).1).trans hbk
          have HBK3 := Lib.hid hbk3
          have HBN := Lib.hid (heap_alloc_new w2 (.cells #[.int .i64 A2, .int .i64 (k2 : Int), .int .i64 T2, .slice va2 L2 vc2, .int .i64 X2] 91))
          have b0 := blk_cell hbk3 0
          have b1 := blk_cell hbk3 1
          have b3 := blk_cell hbk3 3
          clear hb2 hbk hbk3
          go_wp2_with fail
          refine (HIA.out _).mono ?_
          rintro e w1 ⟨rfl, hw1⟩
          subst w1
          go_wp2_with fail
          refine (HIC.out _).mono ?_
          rintro e w1 ⟨rfl, hw1⟩
          subst w1
          go_wp2_with fail
          go_ret2
          exact ⟨by rw [HR.out]; rfl, HB3.out⟩
      have h2B : ((k1 : Int) == 2) = false := by simp; omega
      rw [if_neg h2] at hst
      clear h2
      by_cases h4 : k1 = 4
      · have h4B : ((k1 : Int) == 4) = true := by simp; omega
        have hr : ∃ bb : Bool, decide (ws1 = ws2) = bb ∧ res = (if bb then 1 else 0, n) := by
          refine ⟨_, rfl, ?_⟩
          by_cases hL : L1 ≠ L2
          · rw [if_pos hL] at hst
            have : ws1 ≠ ws2 := fun q => hL (by rw [← HL1.out, ← HL2.out, q])
            rw [decide_eq_false this]
            exact hst
          · rw [if_neg hL, if_pos h4] at hst
            by_cases hw : ws1 = ws2
            · rw [if_pos hw] at hst; rw [decide_eq_true hw]; exact hst
            · rw [if_neg hw] at hst; rw [decide_eq_false hw]; exact hst
        obtain ⟨bb, hbb, hr⟩ := hr
        have HSW := Lib.hid (fun (W1 : World) (hb : Below w.heap.size w W1) => NumL.same_to' (.slice va1 L1 vc1) (.slice va2 L2 vc2) ws1 ws2 bb hbb (by have := HL1.out; omega) W1 (NumL.Words.of_own (by rw [HL1.out]; exact HR1.out W1 hb)) (NumL.Words.of_own (by rw [HL2.out]; exact HR2.out W1 hb)))
        have HR := Lib.hid hr
        clear hst h4 hbb hr
        go_enter Tryd.func65, Tryd.ntmps65
        go_wp2_with fail
        refine (HOA.out).mono ?_
        rintro e w1 ⟨rfl, hb1⟩
        have hB2 := hb1.alloc hb1.size (.cells #[.int .i64 A1, .int .i64 (k1 : Int), .int .i64 T1, .slice va1 L1 vc1, .int .i64 X1] 91)
        have HB2 := Lib.hid hB2
        clear hb1 hB2
        go_wp2_with fail
        refine (HOC.out _ HB2.out).mono ?_
        rintro e w2 ⟨rfl, hb2⟩
        have hbk : w2.heap[w1.heap.size]? = some (.cells #[.int .i64 A1, .int .i64 (k1 : Int), .int .i64 T1, .slice va1 L1 vc1, .int .i64 X1] 91 (0, 0)) := (hb2.block _ (by rw [World.size_alloc]; omega)).trans (heap_alloc_new w1 _)
        have HB3 := Lib.hid ((HB2.out.trans (hb2.mono HB2.out.size)).alloc (HB2.out.trans (hb2.mono HB2.out.size)).size (.cells #[.int .i64 A2, .int .i64 (k2 : Int), .int .i64 T2, .slice va2 L2 vc2, .int .i64 X2] 91))
        have hbk3 := (Below.heap_alloc w2 (.cells #[.int .i64 A2, .int .i64 (k2 : Int), .int .i64 T2, .slice va2 L2 vc2, .int .i64 X2] 91) w1.heap.size (Array.getElem?_eq_some_iff.1 hbk).1).trans hbk
        have HBK3 := Lib.hid hbk3
        have HBN := Lib.hid (heap_alloc_new w2 (.cells #[.int .i64 A2, .int .i64 (k2 : Int), .int .i64 T2, .slice va2 L2 vc2, .int .i64 X2] 91))
        have b0 := blk_cell hbk3 0
        have b1 := blk_cell hbk3 1
        have b3 := blk_cell hbk3 3
        clear hb2 hbk hbk3
        go_wp2_with fail
        refine (HIA.out _).mono ?_
        rintro e w1 ⟨rfl, hw1⟩
        subst w1
        go_wp2_with fail
        refine (HIC.out _).mono ?_
        rintro e w1 ⟨rfl, hw1⟩
        subst w1
        go_wp2_with fail
        refine (HSW.out _ HB3.out).mono ?_
        rintro e w5 ⟨rfl, hb5⟩
        have HB5 := Lib.hid (HB3.out.trans (hb5.mono HB3.out.size))
        clear hb5
        cases bb
        · go_wp2_with fail
          go_ret2
          exact ⟨by rw [HR.out]; rfl, HB5.out⟩
        · go_wp2_with fail
          go_ret2
          exact ⟨by rw [HR.out]; rfl, HB5.out⟩
      have h4B : ((k1 : Int) == 4) = false := by simp; omega
      by_cases hL : L1 ≠ L2
      · have hLB : ((L1 : Int) != (L2 : Int)) = true := by simp; omega
        rw [if_pos hL] at hst
        have HR := Lib.hid (show res = (0, n) from hst)
        clear hst h4 hL
        go_enter Tryd.func65, Tryd.ntmps65
        go_wp2_with fail
        refine (HOA.out).mono ?_
        rintro e w1 ⟨rfl, hb1⟩
        have hB2 := hb1.alloc hb1.size (.cells #[.int .i64 A1, .int .i64 (k1 : Int), .int .i64 T1, .slice va1 L1 vc1, .int .i64 X1] 91)
        have HB2 := Lib.hid hB2
        clear hb1 hB2
        go_wp2_with fail
        refine (HOC.out _ HB2.out).mono ?_
        rintro e w2 ⟨rfl, hb2⟩
        have hbk : w2.heap[w1.heap.size]? = some (.cells #[.int .i64 A1, .int .i64 (k1 : Int), .int .i64 T1, .slice va1 L1 vc1, .int .i64 X1] 91 (0, 0)) := (hb2.block _ (by rw [World.size_alloc]; omega)).trans (heap_alloc_new w1 _)
        have HB3 := Lib.hid ((HB2.out.trans (hb2.mono HB2.out.size)).alloc (HB2.out.trans (hb2.mono HB2.out.size)).size (.cells #[.int .i64 A2, .int .i64 (k2 : Int), .int .i64 T2, .slice va2 L2 vc2, .int .i64 X2] 91))
        have hbk3 := (Below.heap_alloc w2 (.cells #[.int .i64 A2, .int .i64 (k2 : Int), .int .i64 T2, .slice va2 L2 vc2, .int .i64 X2] 91) w1.heap.size (Array.getElem?_eq_some_iff.1 hbk).1).trans hbk
        have HBK3 := Lib.hid hbk3
        have HBN := Lib.hid (heap_alloc_new w2 (.cells #[.int .i64 A2, .int .i64 (k2 : Int), .int .i64 T2, .slice va2 L2 vc2, .int .i64 X2] 91))
        have b0 := blk_cell hbk3 0
        have b1 := blk_cell hbk3 1
        have b3 := blk_cell hbk3 3
        clear hb2 hbk hbk3
        go_wp2_with fail
        refine (HIA.out _).mono ?_
        rintro e w1 ⟨rfl, hw1⟩
        subst w1
        go_wp2_with fail
        refine (HIC.out _).mono ?_
        rintro e w1 ⟨rfl, hw1⟩
        subst w1
        go_wp2_with fail
        go_ret2
        exact ⟨by rw [HR.out]; rfl, HB3.out⟩
      rw [if_neg hL, if_neg h4] at hst
      have hL : L1 = L2 := Classical.not_not.1 hL
      have hLB : ((L1 : Int) != (L2 : Int)) = false := by simp; omega
      have HLE := Lib.hid hL
      have HF := Lib.hid (show res = fieldsN (lookS os 0 W) ws1 ws2 n from hst)
      clear hst h4 hL
      go_enter Tryd.func65, Tryd.ntmps65
      go_wp2_with fail
      refine (HOA.out).mono ?_
      rintro e w1 ⟨rfl, hb1⟩
      have hB2 := hb1.alloc hb1.size (.cells #[.int .i64 A1, .int .i64 (k1 : Int), .int .i64 T1, .slice va1 L1 vc1, .int .i64 X1] 91)
      have HB2 := Lib.hid hB2
      clear hb1 hB2
      go_wp2_with fail
      refine (HOC.out _ HB2.out).mono ?_
      rintro e w2 ⟨rfl, hb2⟩
      have hbk : w2.heap[w1.heap.size]? = some (.cells #[.int .i64 A1, .int .i64 (k1 : Int), .int .i64 T1, .slice va1 L1 vc1, .int .i64 X1] 91 (0, 0)) := (hb2.block _ (by rw [World.size_alloc]; omega)).trans (heap_alloc_new w1 _)
      have HB3 := Lib.hid ((HB2.out.trans (hb2.mono HB2.out.size)).alloc (HB2.out.trans (hb2.mono HB2.out.size)).size (.cells #[.int .i64 A2, .int .i64 (k2 : Int), .int .i64 T2, .slice va2 L2 vc2, .int .i64 X2] 91))
      have hbk3 := (Below.heap_alloc w2 (.cells #[.int .i64 A2, .int .i64 (k2 : Int), .int .i64 T2, .slice va2 L2 vc2, .int .i64 X2] 91) w1.heap.size (Array.getElem?_eq_some_iff.1 hbk).1).trans hbk
      have HBK3 := Lib.hid hbk3
      have HBN := Lib.hid (heap_alloc_new w2 (.cells #[.int .i64 A2, .int .i64 (k2 : Int), .int .i64 T2, .slice va2 L2 vc2, .int .i64 X2] 91))
      have b0 := blk_cell hbk3 0
      have b1 := blk_cell hbk3 1
      have b3 := blk_cell hbk3 3
      clear hb2 hbk hbk3
      go_wp2_with fail
      refine (HIA.out _).mono ?_
      rintro e w1 ⟨rfl, hw1⟩
      subst w1
      go_wp2_with fail
      refine (HIC.out _).mono ?_
      rintro e w1 ⟨rfl, hw1⟩
      subst w1
      go_wp2_with fail
      have HZB := Lib.hid (show ∀ Y, Below _ _ Y → Y.cell? ⟨w1.heap.size, 3, none⟩ = some (.slice va1 L1 vc1) ∧ Y.cell? ⟨w2.heap.size, 3, none⟩ = some (.slice va2 L2 vc2) from fun Y (hY : Below (w2.alloc (.cells #[.int .i64 A2, .int .i64 (k2 : Int), .int .i64 T2, .slice va2 L2 vc2, .int .i64 X2] 91)).heap.size (w2.alloc (.cells #[.int .i64 A2, .int .i64 (k2 : Int), .int .i64 T2, .slice va2 L2 vc2, .int .i64 X2] 91)) Y) =>
        ⟨(hY.cell (p := ⟨w1.heap.size, 3, none⟩) (Array.getElem?_eq_some_iff.1 HBK3.out).1).trans (blk_cell HBK3.out 3), (hY.cell (p := ⟨w2.heap.size, 3, none⟩) (Array.getElem?_eq_some_iff.1 HBN.out).1).trans (blk_cell HBN.out 3)⟩)
      clear b0 b1 b3
      obtain ⟨Z, hZ⟩ : ∃ Z, (w2.alloc (.cells #[.int .i64 A2, .int .i64 (k2 : Int), .int .i64 T2, .slice va2 L2 vc2, .int .i64 X2] 91)) = Z := ⟨_, rfl⟩
      rw [hZ] at HZB HB3 ⊢
      clear hZ HBN HBK3
      go_loopw [3, 14] (fun l q wr => ∃ k l' : Nat, k ≤ L1 ∧ q = .int .i64 k ∧ l = .int .i64 (l' : Int) ∧ l' ≤ n ∧ Below Z.heap.size Z wr ∧ fieldsN (lookS os 0 W) (ws1.drop k) (ws2.drop k) l' = res) (fun _ q _ => L1 - (intOf q).toNat)
      case atStart => exact ⟨0, n, Nat.zero_le _, rfl, rfl, Nat.le_refl _, Below.refl _ _, HF.out.symm⟩
      case round =>
        obtain ⟨k, l', hkL, rfl, rfl, hln, hbr, hfr⟩ := hrel
        obtain ⟨b3, c3⟩ := HZB.out wr hbr
        have HBR := Lib.hid hbr
        have HFR := Lib.hid hfr
        clear hbr hfr
        by_cases hlt : k < L1
        · have hltB : decide ((k : Int) < (L1 : Int)) = true := decide_eq_true (by omega)
          have hk0 : (0 : Int) ≤ k := by omega
          have hk1 : (k : Int) < L1 := by omega
          have hk2 : (k : Int) < L2 := by have := HLE.out; omega
          have hBW := HB3.out.trans (HBR.out.mono HB3.out.size)
          obtain ⟨g1, rfl⟩ := own_some1 (HR1.out wr hBW) (by omega)
          obtain ⟨g2, rfl⟩ := own_some1 (HR2.out wr hBW) (by have := HLE.out; omega)
          have hx := fun Y (hY : Below wr.heap.size wr Y) => wordAt (HR1.out Y (hBW.trans (hY.mono hBW.size))) HL1.out hlt
          have hy := fun Y (hY : Below wr.heap.size wr Y) => wordAt (k := k) (HR2.out Y (hBW.trans (hY.mono hBW.size))) HL2.out (by have := HLE.out; omega)
          have hx64 : ws1.getD k 0 < 18446744073709551616 := HW1.out _ (by rw [List.getD_eq_getElem?_getD, List.getElem?_eq_getElem (by rw [HL1.out]; exact hlt)]; exact List.getElem_mem _)
          have hy64 : ws2.getD k 0 < 18446744073709551616 := HW2.out _ (by rw [List.getD_eq_getElem?_getD, List.getElem?_eq_getElem (by rw [HL2.out, ← HLE.out]; exact hlt)]; exact List.getElem_mem _)
          have hdr := drop_two (L := lookS os 0 W) (l := l') (ws1 := ws1) (ws2 := ws2) (k := k) (by rw [HL1.out]; exact hlt) (by rw [HL2.out, ← HLE.out]; exact hlt)
          rw [HFR.out] at hdr
          obtain ⟨x, hxx⟩ : ∃ x, ws1.getD k 0 = x := ⟨_, rfl⟩
          obtain ⟨y, hyy⟩ : ∃ y, ws2.getD k 0 = y := ⟨_, rfl⟩
          rw [hxx] at hx hx64 hdr
          rw [hyy] at hy hy64 hdr
          have hle2 := sameN_le (L := lookS os 0 W) x y l'
          have HCALL := Lib.hid (fun (Y : World) (hY : Below wr.heap.size wr Y) => (HIH.out Y (hBW.trans (hY.mono hBW.size)) x y l' hx64 hy64 hln).mono fun e w' ⟨h1, h2⟩ => (⟨h1, hY.trans (h2.mono hY.size)⟩ : e = Ending.returned (.tuple #[.int .i64 ((sameN (lookS os 0 W) x y l').1 : Int), .int .i64 ((sameN (lookS os 0 W) x y l').2 : Int)]) ∧ Below wr.heap.size wr w'))
          obtain ⟨rr, hrr⟩ : ∃ rr, sameN (lookS os 0 W) x y l' = rr := ⟨_, rfl⟩
          rw [hrr] at hdr HCALL hle2
          obtain ⟨r1, r2⟩ := rr
          simp only at hdr HCALL hle2
          have HDR := Lib.hid hdr
          have HS := Lib.hid (show ∀ Y, Below wr.heap.size wr Y → Y.cell? ⟨w1.heap.size, 3, none⟩ = some (.slice (some ⟨g1, 0, none⟩) L1 vc1) ∧ Y.cell? ⟨w2.heap.size, 3, none⟩ = some (.slice (some ⟨g2, 0, none⟩) L2 vc2) ∧ Y.cell? ⟨g1, k, none⟩ = some (.int .u64 (x : Int)) ∧ Y.cell? ⟨g2, k, none⟩ = some (.int .u64 (y : Int)) ∧ Below wr.heap.size wr Y from fun Y hY => ⟨(HZB.out Y (HBR.out.trans (hY.mono HBR.out.size))).1, (HZB.out Y (HBR.out.trans (hY.mono HBR.out.size))).2, hx Y hY, hy Y hY, hY⟩)
          have hd0 := HS.out wr (Below.refl _ _)
          have HBW := Lib.hid hBW
          clear hx hy hdr hxx hyy hrr hBW
          go_wp2_with fail
          go_region_held3 (fun Y => Y.cell? ⟨w1.heap.size, 3, none⟩ = some (.slice (some ⟨g1, 0, none⟩) L1 vc1) ∧ Y.cell? ⟨w2.heap.size, 3, none⟩ = some (.slice (some ⟨g2, 0, none⟩) L2 vc2) ∧ Y.cell? ⟨g1, k, none⟩ = some (.int .u64 (x : Int)) ∧ Y.cell? ⟨g2, k, none⟩ = some (.int .u64 (y : Int)) ∧ Below wr.heap.size wr Y)
            (first | (with_reducible assumption) | (with_reducible exact HS.out _ (Below.drew (Below.refl _ _))) | (with_reducible exact HS.out _ (by with_reducible assumption)))
            (first | (go_at_call 65; (with_reducible refine (HCALL.out _ (pb5 (by with_reducible assumption))).mono ?_); rintro e w' ⟨rfl, hww⟩))
          all_goals
            have HWW := Lib.hid (HBR.out.trans (hww.mono HBR.out.size))
            clear hww
            by_cases hone : r1 = 1
            · have honeB : ((r1 : Int) != 1) = false := by simp; omega
              have HONE := Lib.hid hone
              clear hone
              go_wp2_with fail
              go_roundw
              case rel => exact ⟨k + 1, r2, hlt, by go_num, rfl, by omega, HWW.out, by have := HDR.out; rw [if_pos HONE.out] at this; exact this.symm⟩
              case measure => simp [intOf]; omega
            · have honeB : ((r1 : Int) != 1) = true := by simp; omega
              have HONE := Lib.hid hone
              clear hone
              go_wp2_with fail
              go_ret2
              exact ⟨by have := HDR.out; rw [if_neg HONE.out] at this; rw [this]; rfl, HB3.out.trans (HWW.out.mono HB3.out.size)⟩
        · have hltB : decide ((k : Int) < (L1 : Int)) = false := decide_eq_false (by omega)
          have hkk : k = L1 := by omega
          have hr : res = (1, l') := by
            have := HFR.out
            rw [List.drop_eq_nil_of_le (by rw [HL1.out]; omega), List.drop_eq_nil_of_le (by rw [HL2.out, ← HLE.out]; omega), fieldsN_nil] at this
            exact this.symm
          have HR := Lib.hid hr
          clear hr hkk
          go_wp2_with fail
          go_ret2
          exact ⟨by rw [HR.out]; rfl, HB3.out.trans (HBR.out.mono HB3.out.size)⟩
  exact main _ _ _ _ rfl rfl rfl rfl (by unfold isC; congr 1 <;> (rw [Bool.eq_iff_iff]; simp; omega)) (by unfold isC; congr 1 <;> (rw [Bool.eq_iff_iff]; simp; omega))
set_option maxRecDepth 100000 in
theorem rsame_any (hos : ∀ o ∈ os, o.ws.length ≤ 1000) : ∀ (N left : Nat), left ≤ N → N ≤ 3000 → ∀ (w1 : World), RW w0 b W os w1 v P → ∀ (a c : Nat), a < 18446744073709551616 → c < 18446744073709551616 →
    Calls Tryd.prog 65 #[.pointer (some ⟨b, 0, none⟩), .int .u64 (a : Int), .int .u64 (c : Int), .int .i64 (left : Int)] w1 (RSame (sameN (lookS os 0 W) a c left) w1) := by
  intro N
  induction N with
  | zero =>
    intro left hl _ w1 _ a c _ _
    obtain rfl : left = 0 := by omega
    unfold RSame
    rw [sameN_zero]
    go_enter Tryd.func65, Tryd.ntmps65
    go_wp2_with fail
    go_ret2
    exact ⟨rfl, Below.refl _ _⟩
  | succ N ih =>
    intro left hl hN w1 x1 a c ha hc
    cases left with
    | zero => exact ih 0 (Nat.zero_le _) (by omega) w1 x1 a c ha hc
    | succ n =>
      have hb : ∀ q : Bool, q = true ∨ q = false := fun q => by cases q <;> simp
      rw [show (((n + 1 : Nat) : Int)) = (n : Int) + 1 by omega]
      cases ea : idxAt os 0 W (toP (a : Int)) with
      | none =>
        rcases hb (isIntB (a : Int)) with ia | ia
        · cases ec : idxAt os 0 W (toP (c : Int)) with
          | none =>
            rcases hb (isIntB (c : Int)) with ic | ic
            · refine (rsame_i3 x1 a c n ha hc (by omega) ⟨ea, ia⟩ ⟨ec, ic⟩).mono fun e w' ⟨h1, h2⟩ => ⟨?_, h2⟩
              have hl : lookS os 0 W a c = .inl (if a = c then 1 else 0) := by unfold lookS; rw [ea, ec]; simp only; rw [if_neg (by rw [ia, ic]; simp)]
              rw [sameN_succ, hl, h1]; by_cases q : a = c <;> simp [q]
            · refine (rsame_w3 x1 a c n ha hc (by omega) ⟨ea, ia⟩ ⟨ec, ic⟩).mono fun e w' ⟨h1, h2⟩ => ⟨?_, h2⟩
              have hl : lookS os 0 W a c = .inl 4 := by unfold lookS; rw [ea, ec]; simp only; rw [if_pos (.inr ic)]
              rw [sameN_succ, hl, h1]; rfl
          | some j =>
            refine (rsame_i2 x1 a c n ha hc (by omega) ⟨ea, ia⟩ (by rw [ec]; rfl)).mono fun e w' ⟨h1, h2⟩ => ⟨?_, h2⟩
            have hl : lookS os 0 W a c = .inl (if a = c then 1 else 0) := by unfold lookS; rw [ea, ec]; simp only; rw [if_neg (by rw [ia]; simp)]
            rw [sameN_succ, hl, h1]; by_cases q : a = c <;> simp [q]
        · refine (rsame_w1 x1 a c n ha hc (by omega) ⟨ea, ia⟩).mono fun e w' ⟨h1, h2⟩ => ⟨?_, h2⟩
          have hl : lookS os 0 W a c = .inl 4 := by
            unfold lookS
            rw [ea]
            cases ec : idxAt os 0 W (toP (c : Int)) with
            | none => simp only; rw [if_pos (.inl ia)]
            | some j => simp only; rw [if_pos ia]
          rw [sameN_succ, hl, h1]; rfl
      | some i =>
        cases ec : idxAt os 0 W (toP (c : Int)) with
        | none =>
          rcases hb (isIntB (c : Int)) with ic | ic
          · refine (rsame_i1 x1 a c n ha hc (by omega) (by rw [ea]; rfl) ⟨ec, ic⟩).mono fun e w' ⟨h1, h2⟩ => ⟨?_, h2⟩
            have hl : lookS os 0 W a c = .inl (if a = c then 1 else 0) := by unfold lookS; rw [ea, ec]; simp only; rw [if_neg (by rw [ic]; simp)]
            rw [sameN_succ, hl, h1]; by_cases q : a = c <;> simp [q]
          · refine (rsame_w2 x1 a c n ha hc (by omega) (by rw [ea]; rfl) ⟨ec, ic⟩).mono fun e w' ⟨h1, h2⟩ => ⟨?_, h2⟩
            have hl : lookS os 0 W a c = .inl 4 := by unfold lookS; rw [ea, ec]; simp only; rw [if_pos ic]
            rw [sameN_succ, hl, h1]; rfl
        | some j =>
          exact rsame_hit x1 hos a c n ha hc (by omega) ea ec (fun w2 x2 a2 c2 l ha2 hc2 hl2 => ih l (by omega) (by omega) w2 x2 a2 c2 ha2 hc2)
set_option maxRecDepth 100000 in
theorem refsame_any (x : RW w0 b W os w v P) (hos : ∀ o ∈ os, o.ws.length ≤ 1000) (a c : Nat) (ha : a < 18446744073709551616) (hc : c < 18446744073709551616) (most : Int) (hm1 : most ≤ 2000) :
    Calls Tryd.prog 31 #[.pointer (some ⟨b, 0, none⟩), .int .u64 (a : Int), .int .u64 (c : Int), .int .i64 most] w (SameTo os 0 W a c most w) := by
  obtain ⟨M, hM⟩ : ∃ M, most.toNat = M := ⟨_, rfl⟩
  have hs := rsame_any hos M M (Nat.le_refl _) (by omega) w x a c ha hc
  have hle := sameN_le (L := lookS os 0 W) a c M
  unfold SameTo
  rw [hM]
  obtain ⟨r, hr⟩ : ∃ r, sameN (lookS os 0 W) a c M = r := ⟨_, rfl⟩
  rw [hr] at hs hle ⊢
  obtain ⟨r1, r2⟩ := r
  unfold RSame at hs
  simp only at hs hle
  have HS := Lib.hid hs
  have HMM := Lib.hid hM
  have hM2 : M ≤ 2000 := by omega
  have hcast : ((M - r2 : Nat) : Int) = (M : Int) - r2 := by omega
  have hans : ∀ q : r1 ≠ 4, ansT M (r1, r2) = ((r1 : Int), (M : Int) - r2, 0) := fun q => by unfold ansT; rw [if_neg q, hcast]
  have hans4 : r1 = 4 → ansT M (r1, r2) = (0, 0, 40) := fun q => by unfold ansT; rw [if_pos q]
  obtain ⟨T, hT⟩ : ∃ T, ansT M (r1, r2) = T := ⟨_, rfl⟩
  rw [hT] at hans hans4 ⊢
  have HA := Lib.hid hans
  have HA4 := Lib.hid hans4
  have hneg : (most < 0 ∧ M = 0) ∨ (0 ≤ most ∧ (M : Int) = most) := by omega
  clear x hos hs hr hM hcast hans hans4 hT
  rcases hneg with ⟨h1, h2⟩ | ⟨h1, h2⟩
  · have hd : decide (most < 0) = true := decide_eq_true h1
    subst h2
    by_cases h4 : r1 = 4
    · have h4B : ((r1 : Int) == 4) = true := by simp; omega
      have H4 := Lib.hid h4
      clear h4
      go_enter Tryd.func31, Tryd.ntmps31
      go_wp2_with fail
      refine (HS.out).mono ?_
      rintro e w1 ⟨rfl, hb1⟩
      have HB := Lib.hid hb1
      clear hb1
      go_wp2_with fail
      go_ret3
      exact ⟨by rw [HA4.out H4.out]; rfl, HB.out⟩
    · have h4B : ((r1 : Int) == 4) = false := by simp; omega
      have H4 := Lib.hid h4
      clear h4
      go_enter Tryd.func31, Tryd.ntmps31
      go_wp2_with fail
      refine (HS.out).mono ?_
      rintro e w1 ⟨rfl, hb1⟩
      have HB := Lib.hid hb1
      clear hb1
      go_wp2_with fail
      go_ret3
      exact ⟨by rw [HA.out H4.out]; simp, HB.out⟩
  · have hd : decide (most < 0) = false := decide_eq_false (by omega)
    subst h2
    by_cases h4 : r1 = 4
    · have h4B : ((r1 : Int) == 4) = true := by simp; omega
      have H4 := Lib.hid h4
      clear h4
      go_enter Tryd.func31, Tryd.ntmps31
      go_wp2_with fail
      refine (HS.out).mono ?_
      rintro e w1 ⟨rfl, hb1⟩
      have HB := Lib.hid hb1
      clear hb1
      go_wp2_with fail
      go_ret3
      exact ⟨by rw [HA4.out H4.out]; rfl, HB.out⟩
    · have h4B : ((r1 : Int) == 4) = false := by simp; omega
      have H4 := Lib.hid h4
      clear h4
      go_enter Tryd.func31, Tryd.ntmps31
      go_wp2_with fail
      refine (HS.out).mono ?_
      rintro e w1 ⟨rfl, hb1⟩
      have HB := Lib.hid hb1
      clear hb1
      go_wp2_with fail
      go_ret3
      exact ⟨by rw [HA.out H4.out]; rfl, HB.out⟩
end
end Go.Proofs.YtlakfnlkiebpdaaDoor
