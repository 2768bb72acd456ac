/- The contract of the document's same and Same over the document's memory. Conditions: the memory lies as RW says; its objects have at most a thousand words. -/
import Derived.Test.YtlakfnlkiebpdaaDoorRtsRT
import Derived.Test.YtlakfnlkiebpdaaDoorRtsSS
namespace Go.Proofs.YtlakfnlkiebpdaaDoor
open Go Go.RowKit
theorem refisint_eq (n : Nat) (hn : n < 18446744073709551616) (b : Bool) (hb : isIntB (n : Int) = b) (w : World) : Calls Tryd.prog 94 #[.int .u64 (n : Int)] w fun e w' => e = .returned (.bool b) ∧ w' = w := by
  subst hb
  exact (refisint_any (n : Int) w (by omega) (by omega)).mono fun e w' ⟨h1, h2⟩ => ⟨h1, h2.symm⟩
section
variable {w0 w : World} {b W : Nat} {os : List Ob} {v : Value} {P : List (RO × Value)}
def okB (o : Option Nat) : Bool := o.isSome
theorem refobj_any (x : RW w0 b W os w v P) (n : Nat) (hn : n < 18446744073709551616) :
    ∃ (A K T : Int) (ua : Option Addr) (uL uc : Nat) (X : Int), ∀ W1, Below w.heap.size w W1 → Calls Tryd.prog 61 #[.pointer (some ⟨b, 0, none⟩), .int .u64 (n : Int)] W1 fun e w' => e = .returned (.tuple #[.agg #[.int .i64 A, .int .i64 K, .int .i64 T, .slice ua uL uc, .int .i64 X], .bool (okB (idxAt os 0 W (toP (n : Int))))]) ∧ Below W1.heap.size W1 w' := by
  cases hi : idxAt os 0 W (toP (n : Int)) with
  | none => exact ⟨0, 0, 0, none, 0, 0, 0, fun W1 hb => refobj_miss (x.below hb) n hn hi⟩
  | some j =>
    obtain ⟨u, hp⟩ := P_get x.e (idx_ob hi)
    obtain ⟨ua, uc, hu, _, _⟩ := own_shape5 (x.r.l1.ws _ (List.mem_of_getElem? hp))
    simp only at hu
    subst hu
    exact ⟨_, _, _, _, _, _, _, fun W1 hb => refobj_hit (x.below hb) n hn hi hp⟩

set_option maxRecDepth 100000 in
set_option maxHeartbeats 8000000 in
theorem rsame_w1 (x : RW w0 b W os w v P) (a c n : Nat) (ha64 : a < 18446744073709551616) (hc64 : c < 18446744073709551616) (hn : n ≤ 3000) (ha : idxAt os 0 W (toP (a : Int)) = none ∧ isIntB (a : Int) = false)  :
    Calls Tryd.prog 65 #[.pointer (some ⟨b, 0, none⟩), .int .u64 (a : Int), .int .u64 (c : Int), .int .i64 ((n : Int) + 1)] w fun e w' => e = .returned (.tuple #[.int .i64 4, .int .i64 (n : Int)]) ∧ Below w.heap.size w w' := by
  obtain ⟨Aa, Ka, Ta, ua, uLa, uca, Xa, hao⟩ := refobj_any x a ha64
  rw [show okB (idxAt os 0 W (toP (a : Int))) = false from by rw [ha.1]; rfl] at hao
  have hia := ha.2
  have HIA := Lib.hid (refisint_eq a ha64 false hia)
  have HOA := Lib.hid hao
  obtain ⟨Ac, Kc, Tc, uc, uLc, ucc, Xc, hco⟩ := refobj_any x c hc64
  obtain ⟨kc, hkc⟩ : ∃ k, okB (idxAt os 0 W (toP (c : Int))) = k := ⟨_, rfl⟩
  rw [hkc] at hco
  have HOC := Lib.hid hco
  clear x hao hco hia ha hkc
  go_enter Tryd.func65, Tryd.ntmps65
  go_wp2_with fail
  refine (HOA.out w (Below.refl _ _)).mono ?_
  rintro e w1 ⟨rfl, hb1⟩
  have HB1 := Lib.hid hb1
  have HB2 := Lib.hid (hb1.alloc hb1.size (.cells #[.int .i64 Aa, .int .i64 Ka, .int .i64 Ta, .slice ua uLa uca, .int .i64 Xa] 91))
  clear hb1
  go_wp2_with fail
  refine (HOC.out _ HB2.out).mono ?_
  rintro e w2 ⟨rfl, hb2⟩
  have HB3 := Lib.hid ((HB2.out.trans (hb2.mono HB2.out.size)).alloc (HB2.out.trans (hb2.mono HB2.out.size)).size (.cells #[.int .i64 Ac, .int .i64 Kc, .int .i64 Tc, .slice uc uLc ucc, .int .i64 Xc] 91))
  clear hb2
  go_wp2_with fail
  refine (HIA.out _).mono ?_
  rintro e w1 ⟨rfl, hw1⟩
  subst w1
  go_wp2_with fail
  go_ret2
  exact ⟨rfl, HB3.out⟩
set_option maxRecDepth 100000 in
set_option maxHeartbeats 8000000 in
theorem rsame_w2 (x : RW w0 b W os w v P) (a c n : Nat) (ha64 : a < 18446744073709551616) (hc64 : c < 18446744073709551616) (hn : n ≤ 3000) (ha : (idxAt os 0 W (toP (a : Int))).isSome = true) (hc : idxAt os 0 W (toP (c : Int)) = none ∧ isIntB (c : Int) = false) :
    Calls Tryd.prog 65 #[.pointer (some ⟨b, 0, none⟩), .int .u64 (a : Int), .int .u64 (c : Int), .int .i64 ((n : Int) + 1)] w fun e w' => e = .returned (.tuple #[.int .i64 4, .int .i64 (n : Int)]) ∧ Below w.heap.size w w' := by
  obtain ⟨Aa, Ka, Ta, ua, uLa, uca, Xa, hao⟩ := refobj_any x a ha64
  rw [show okB (idxAt os 0 W (toP (a : Int))) = true from by exact ha] at hao
  have hia : isIntB (a : Int) = false := by obtain ⟨i, hi⟩ := Option.isSome_iff_exists.1 ha; exact idx_even hi
  have HIA := Lib.hid (refisint_eq a ha64 false hia)
  have HOA := Lib.hid hao
  obtain ⟨Ac, Kc, Tc, uc, uLc, ucc, Xc, hco⟩ := refobj_any x c hc64
  rw [show okB (idxAt os 0 W (toP (c : Int))) = false from by rw [hc.1]; rfl] at hco
  have hic := hc.2
  have HIC := Lib.hid (refisint_eq c hc64 false hic)
  have HOC := Lib.hid hco
  clear x hao hco hia ha hic hc
  go_enter Tryd.func65, Tryd.ntmps65
  go_wp2_with fail
  refine (HOA.out w (Below.refl _ _)).mono ?_
  rintro e w1 ⟨rfl, hb1⟩
  have HB1 := Lib.hid hb1
  have HB2 := Lib.hid (hb1.alloc hb1.size (.cells #[.int .i64 Aa, .int .i64 Ka, .int .i64 Ta, .slice ua uLa uca, .int .i64 Xa] 91))
  clear hb1
  go_wp2_with fail
  refine (HOC.out _ HB2.out).mono ?_
  rintro e w2 ⟨rfl, hb2⟩
  have HB3 := Lib.hid ((HB2.out.trans (hb2.mono HB2.out.size)).alloc (HB2.out.trans (hb2.mono HB2.out.size)).size (.cells #[.int .i64 Ac, .int .i64 Kc, .int .i64 Tc, .slice uc uLc ucc, .int .i64 Xc] 91))
  clear hb2
  go_wp2_with fail
  refine (HIA.out _).mono ?_
  rintro e w1 ⟨rfl, hw1⟩
  subst w1
  go_wp2_with fail
  refine (HIC.out _).mono ?_
  rintro e w1 ⟨rfl, hw1⟩
  subst w1
  go_wp2_with fail
  go_ret2
  exact ⟨rfl, HB3.out⟩
set_option maxRecDepth 100000 in
set_option maxHeartbeats 8000000 in
theorem rsame_w3 (x : RW w0 b W os w v P) (a c n : Nat) (ha64 : a < 18446744073709551616) (hc64 : c < 18446744073709551616) (hn : n ≤ 3000) (ha : idxAt os 0 W (toP (a : Int)) = none ∧ isIntB (a : Int) = true) (hc : idxAt os 0 W (toP (c : Int)) = none ∧ isIntB (c : Int) = false) :
    Calls Tryd.prog 65 #[.pointer (some ⟨b, 0, none⟩), .int .u64 (a : Int), .int .u64 (c : Int), .int .i64 ((n : Int) + 1)] w fun e w' => e = .returned (.tuple #[.int .i64 4, .int .i64 (n : Int)]) ∧ Below w.heap.size w w' := by
  obtain ⟨Aa, Ka, Ta, ua, uLa, uca, Xa, hao⟩ := refobj_any x a ha64
  rw [show okB (idxAt os 0 W (toP (a : Int))) = false from by rw [ha.1]; rfl] at hao
  have hia := ha.2
  have HIA := Lib.hid (refisint_eq a ha64 true hia)
  have HOA := Lib.hid hao
  obtain ⟨Ac, Kc, Tc, uc, uLc, ucc, Xc, hco⟩ := refobj_any x c hc64
  rw [show okB (idxAt os 0 W (toP (c : Int))) = false from by rw [hc.1]; rfl] at hco
  have hic := hc.2
  have HIC := Lib.hid (refisint_eq c hc64 false hic)
  have HOC := Lib.hid hco
  clear x hao hco hia ha hic hc
  go_enter Tryd.func65, Tryd.ntmps65
  go_wp2_with fail
  refine (HOA.out w (Below.refl _ _)).mono ?_
  rintro e w1 ⟨rfl, hb1⟩
  have HB1 := Lib.hid hb1
  have HB2 := Lib.hid (hb1.alloc hb1.size (.cells #[.int .i64 Aa, .int .i64 Ka, .int .i64 Ta, .slice ua uLa uca, .int .i64 Xa] 91))
  clear hb1
  go_wp2_with fail
  refine (HOC.out _ HB2.out).mono ?_
  rintro e w2 ⟨rfl, hb2⟩
  have HB3 := Lib.hid ((HB2.out.trans (hb2.mono HB2.out.size)).alloc (HB2.out.trans (hb2.mono HB2.out.size)).size (.cells #[.int .i64 Ac, .int .i64 Kc, .int .i64 Tc, .slice uc uLc ucc, .int .i64 Xc] 91))
  clear hb2
  go_wp2_with fail
  refine (HIA.out _).mono ?_
  rintro e w1 ⟨rfl, hw1⟩
  subst w1
  go_wp2_with fail
  refine (HIC.out _).mono ?_
  rintro e w1 ⟨rfl, hw1⟩
  subst w1
  go_wp2_with fail
  go_ret2
  exact ⟨rfl, HB3.out⟩
set_option maxRecDepth 100000 in
set_option maxHeartbeats 8000000 in
theorem rsame_i1 (x : RW w0 b W os w v P) (a c n : Nat) (ha64 : a < 18446744073709551616) (hc64 : c < 18446744073709551616) (hn : n ≤ 3000) (ha : (idxAt os 0 W (toP (a : Int))).isSome = true) (hc : idxAt os 0 W (toP (c : Int)) = none ∧ isIntB (c : Int) = true) :
    Calls Tryd.prog 65 #[.pointer (some ⟨b, 0, none⟩), .int .u64 (a : Int), .int .u64 (c : Int), .int .i64 ((n : Int) + 1)] w fun e w' => e = .returned (.tuple #[.int .i64 (if a = c then 1 else 0), .int .i64 (n : Int)]) ∧ Below w.heap.size w w' := by
  obtain ⟨Aa, Ka, Ta, ua, uLa, uca, Xa, hao⟩ := refobj_any x a ha64
  rw [show okB (idxAt os 0 W (toP (a : Int))) = true from by exact ha] at hao
  have hia : isIntB (a : Int) = false := by obtain ⟨i, hi⟩ := Option.isSome_iff_exists.1 ha; exact idx_even hi
  have HIA := Lib.hid (refisint_eq a ha64 false hia)
  have HOA := Lib.hid hao
  obtain ⟨Ac, Kc, Tc, uc, uLc, ucc, Xc, hco⟩ := refobj_any x c hc64
  rw [show okB (idxAt os 0 W (toP (c : Int))) = false from by rw [hc.1]; rfl] at hco
  have hic := hc.2
  have HIC := Lib.hid (refisint_eq c hc64 true hic)
  have HOC := Lib.hid hco
  clear x hao hco hia ha hic hc
  by_cases hac : a = c
  · have hac2 : ((a : Int) == (c : Int)) = true := by simp; omega
    have HE := Lib.hid hac
    clear hac
    go_enter Tryd.func65, Tryd.ntmps65
    go_wp2_with fail
    refine (HOA.out w (Below.refl _ _)).mono ?_
    rintro e w1 ⟨rfl, hb1⟩
    have HB1 := Lib.hid hb1
    have HB2 := Lib.hid (hb1.alloc hb1.size (.cells #[.int .i64 Aa, .int .i64 Ka, .int .i64 Ta, .slice ua uLa uca, .int .i64 Xa] 91))
    clear hb1
    go_wp2_with fail
    refine (HOC.out _ HB2.out).mono ?_
    rintro e w2 ⟨rfl, hb2⟩
    have HB3 := Lib.hid ((HB2.out.trans (hb2.mono HB2.out.size)).alloc (HB2.out.trans (hb2.mono HB2.out.size)).size (.cells #[.int .i64 Ac, .int .i64 Kc, .int .i64 Tc, .slice uc uLc ucc, .int .i64 Xc] 91))
    clear hb2
    go_wp2_with fail
    refine (HIA.out _).mono ?_
    rintro e w1 ⟨rfl, hw1⟩
    subst w1
    go_wp2_with fail
    refine (HIC.out _).mono ?_
    rintro e w1 ⟨rfl, hw1⟩
    subst w1
    go_wp2_with fail
    go_ret2
    exact ⟨by first | rfl | (rw [if_pos HE.out]; rfl), HB3.out⟩
  · have hac2 : ((a : Int) == (c : Int)) = false := by simp; omega
    have HE := Lib.hid hac
    clear hac
    go_enter Tryd.func65, Tryd.ntmps65
    go_wp2_with fail
    refine (HOA.out w (Below.refl _ _)).mono ?_
    rintro e w1 ⟨rfl, hb1⟩
    have HB1 := Lib.hid hb1
    have HB2 := Lib.hid (hb1.alloc hb1.size (.cells #[.int .i64 Aa, .int .i64 Ka, .int .i64 Ta, .slice ua uLa uca, .int .i64 Xa] 91))
    clear hb1
    go_wp2_with fail
    refine (HOC.out _ HB2.out).mono ?_
    rintro e w2 ⟨rfl, hb2⟩
    have HB3 := Lib.hid ((HB2.out.trans (hb2.mono HB2.out.size)).alloc (HB2.out.trans (hb2.mono HB2.out.size)).size (.cells #[.int .i64 Ac, .int .i64 Kc, .int .i64 Tc, .slice uc uLc ucc, .int .i64 Xc] 91))
    clear hb2
    go_wp2_with fail
    refine (HIA.out _).mono ?_
    rintro e w1 ⟨rfl, hw1⟩
    subst w1
    go_wp2_with fail
    refine (HIC.out _).mono ?_
    rintro e w1 ⟨rfl, hw1⟩
    subst w1
    go_wp2_with fail
    go_ret2
    exact ⟨by first | rfl | (rw [if_neg HE.out]; rfl), HB3.out⟩
set_option maxRecDepth 100000 in
set_option maxHeartbeats 8000000 in
theorem rsame_i2 (x : RW w0 b W os w v P) (a c n : Nat) (ha64 : a < 18446744073709551616) (hc64 : c < 18446744073709551616) (hn : n ≤ 3000) (ha : idxAt os 0 W (toP (a : Int)) = none ∧ isIntB (a : Int) = true) (hc : (idxAt os 0 W (toP (c : Int))).isSome = true) :
    Calls Tryd.prog 65 #[.pointer (some ⟨b, 0, none⟩), .int .u64 (a : Int), .int .u64 (c : Int), .int .i64 ((n : Int) + 1)] w fun e w' => e = .returned (.tuple #[.int .i64 (if a = c then 1 else 0), .int .i64 (n : Int)]) ∧ Below w.heap.size w w' := by
  obtain ⟨Aa, Ka, Ta, ua, uLa, uca, Xa, hao⟩ := refobj_any x a ha64
  rw [show okB (idxAt os 0 W (toP (a : Int))) = false from by rw [ha.1]; rfl] at hao
  have hia := ha.2
  have HIA := Lib.hid (refisint_eq a ha64 true hia)
  have HOA := Lib.hid hao
  obtain ⟨Ac, Kc, Tc, uc, uLc, ucc, Xc, hco⟩ := refobj_any x c hc64
  rw [show okB (idxAt os 0 W (toP (c : Int))) = true from by exact hc] at hco
  have hic : isIntB (c : Int) = false := by obtain ⟨i, hi⟩ := Option.isSome_iff_exists.1 hc; exact idx_even hi
  have HIC := Lib.hid (refisint_eq c hc64 false hic)
  have HOC := Lib.hid hco
  clear x hao hco hia ha hic hc
  by_cases hac : a = c
  · have hac2 : ((a : Int) == (c : Int)) = true := by simp; omega
    have HE := Lib.hid hac
    clear hac
    go_enter Tryd.func65, Tryd.ntmps65
    go_wp2_with fail
    refine (HOA.out w (Below.refl _ _)).mono ?_
    rintro e w1 ⟨rfl, hb1⟩
    have HB1 := Lib.hid hb1
    have HB2 := Lib.hid (hb1.alloc hb1.size (.cells #[.int .i64 Aa, .int .i64 Ka, .int .i64 Ta, .slice ua uLa uca, .int .i64 Xa] 91))
    clear hb1
    go_wp2_with fail
    refine (HOC.out _ HB2.out).mono ?_
    rintro e w2 ⟨rfl, hb2⟩
    have HB3 := Lib.hid ((HB2.out.trans (hb2.mono HB2.out.size)).alloc (HB2.out.trans (hb2.mono HB2.out.size)).size (.cells #[.int .i64 Ac, .int .i64 Kc, .int .i64 Tc, .slice uc uLc ucc, .int .i64 Xc] 91))
    clear hb2
    go_wp2_with fail
    refine (HIA.out _).mono ?_
    rintro e w1 ⟨rfl, hw1⟩
    subst w1
    go_wp2_with fail
    refine (HIC.out _).mono ?_
    rintro e w1 ⟨rfl, hw1⟩
    subst w1
    go_wp2_with fail
    go_ret2
    exact ⟨by first | rfl | (rw [if_pos HE.out]; rfl), HB3.out⟩
  · have hac2 : ((a : Int) == (c : Int)) = false := by simp; omega
    have HE := Lib.hid hac
    clear hac
    go_enter Tryd.func65, Tryd.ntmps65
    go_wp2_with fail
    refine (HOA.out w (Below.refl _ _)).mono ?_
    rintro e w1 ⟨rfl, hb1⟩
    have HB1 := Lib.hid hb1
    have HB2 := Lib.hid (hb1.alloc hb1.size (.cells #[.int .i64 Aa, .int .i64 Ka, .int .i64 Ta, .slice ua uLa uca, .int .i64 Xa] 91))
    clear hb1
    go_wp2_with fail
    refine (HOC.out _ HB2.out).mono ?_
    rintro e w2 ⟨rfl, hb2⟩
    have HB3 := Lib.hid ((HB2.out.trans (hb2.mono HB2.out.size)).alloc (HB2.out.trans (hb2.mono HB2.out.size)).size (.cells #[.int .i64 Ac, .int .i64 Kc, .int .i64 Tc, .slice uc uLc ucc, .int .i64 Xc] 91))
    clear hb2
    go_wp2_with fail
    refine (HIA.out _).mono ?_
    rintro e w1 ⟨rfl, hw1⟩
    subst w1
    go_wp2_with fail
    refine (HIC.out _).mono ?_
    rintro e w1 ⟨rfl, hw1⟩
    subst w1
    go_wp2_with fail
    go_ret2
    exact ⟨by first | rfl | (rw [if_neg HE.out]; rfl), HB3.out⟩
set_option maxRecDepth 100000 in
set_option maxHeartbeats 8000000 in
theorem rsame_i3 (x : RW w0 b W os w v P) (a c n : Nat) (ha64 : a < 18446744073709551616) (hc64 : c < 18446744073709551616) (hn : n ≤ 3000) (ha : idxAt os 0 W (toP (a : Int)) = none ∧ isIntB (a : Int) = true) (hc : idxAt os 0 W (toP (c : Int)) = none ∧ isIntB (c : Int) = true) :
    Calls Tryd.prog 65 #[.pointer (some ⟨b, 0, none⟩), .int .u64 (a : Int), .int .u64 (c : Int), .int .i64 ((n : Int) + 1)] w fun e w' => e = .returned (.tuple #[.int .i64 (if a = c then 1 else 0), .int .i64 (n : Int)]) ∧ Below w.heap.size w w' := by
  obtain ⟨Aa, Ka, Ta, ua, uLa, uca, Xa, hao⟩ := refobj_any x a ha64
  rw [show okB (idxAt os 0 W (toP (a : Int))) = false from by rw [ha.1]; rfl] at hao
  have hia := ha.2
  have HIA := Lib.hid (refisint_eq a ha64 true hia)
  have HOA := Lib.hid hao
  obtain ⟨Ac, Kc, Tc, uc, uLc, ucc, Xc, hco⟩ := refobj_any x c hc64
  rw [show okB (idxAt os 0 W (toP (c : Int))) = false from by rw [hc.1]; rfl] at hco
  have hic := hc.2
  have HIC := Lib.hid (refisint_eq c hc64 true hic)
  have HOC := Lib.hid hco
  clear x hao hco hia ha hic hc
  by_cases hac : a = c
  · have hac2 : ((a : Int) == (c : Int)) = true := by simp; omega
    have HE := Lib.hid hac
    clear hac
    go_enter Tryd.func65, Tryd.ntmps65
    go_wp2_with fail
    refine (HOA.out w (Below.refl _ _)).mono ?_
    rintro e w1 ⟨rfl, hb1⟩
    have HB1 := Lib.hid hb1
    have HB2 := Lib.hid (hb1.alloc hb1.size (.cells #[.int .i64 Aa, .int .i64 Ka, .int .i64 Ta, .slice ua uLa uca, .int .i64 Xa] 91))
    clear hb1
    go_wp2_with fail
    refine (HOC.out _ HB2.out).mono ?_
    rintro e w2 ⟨rfl, hb2⟩
    have HB3 := Lib.hid ((HB2.out.trans (hb2.mono HB2.out.size)).alloc (HB2.out.trans (hb2.mono HB2.out.size)).size (.cells #[.int .i64 Ac, .int .i64 Kc, .int .i64 Tc, .slice uc uLc ucc, .int .i64 Xc] 91))
    clear hb2
    go_wp2_with fail
    refine (HIA.out _).mono ?_
    rintro e w1 ⟨rfl, hw1⟩
    subst w1
    go_wp2_with fail
    refine (HIC.out _).mono ?_
    rintro e w1 ⟨rfl, hw1⟩
    subst w1
    go_wp2_with fail
    go_ret2
    exact ⟨by first | rfl | (rw [if_pos HE.out]; rfl), HB3.out⟩
  · have hac2 : ((a : Int) == (c : Int)) = false := by simp; omega
    have HE := Lib.hid hac
    clear hac
    go_enter Tryd.func65, Tryd.ntmps65
    go_wp2_with fail
    refine (HOA.out w (Below.refl _ _)).mono ?_
    rintro e w1 ⟨rfl, hb1⟩
    have HB1 := Lib.hid hb1
    have HB2 := Lib.hid (hb1.alloc hb1.size (.cells #[.int .i64 Aa, .int .i64 Ka, .int .i64 Ta, .slice ua uLa uca, .int .i64 Xa] 91))
    clear hb1
    go_wp2_with fail
    refine (HOC.out _ HB2.out).mono ?_
    rintro e w2 ⟨rfl, hb2⟩
    have HB3 := Lib.hid ((HB2.out.trans (hb2.mono HB2.out.size)).alloc (HB2.out.trans (hb2.mono HB2.out.size)).size (.cells #[.int .i64 Ac, .int .i64 Kc, .int .i64 Tc, .slice uc uLc ucc, .int .i64 Xc] 91))
    clear hb2
    go_wp2_with fail
    refine (HIA.out _).mono ?_
    rintro e w1 ⟨rfl, hw1⟩
    subst w1
    go_wp2_with fail
    refine (HIC.out _).mono ?_
    rintro e w1 ⟨rfl, hw1⟩
    subst w1
    go_wp2_with fail
    go_ret2
    exact ⟨by first | rfl | (rw [if_neg HE.out]; rfl), HB3.out⟩
end
end Go.Proofs.YtlakfnlkiebpdaaDoor
