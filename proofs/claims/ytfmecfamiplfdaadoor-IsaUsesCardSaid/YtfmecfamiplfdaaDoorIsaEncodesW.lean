/- The walk of the statement IsaEncodes: it returns true. Conditions: the library's table of powers of ten and the table of operations read as they are laid. -/
import Derived.Test.YtfmecfamiplfdaaDoorIsaKnown
namespace Go.Proofs.YtfmecfamiplfdaaDoor
open Go Go.RowKit
/-- what stays over the calls of a law that holds an instruction in memory, at block I -/
structure KI (w : World) (I : Nat) (o a b c n : Int) (W : World) : Prop where
  kn : Kn w W
  c0 : W.cell? ⟨I, 0, none⟩ = some (.int .i64 o)
  c1 : W.cell? ⟨I, 1, none⟩ = some (.int .i64 a)
  c2 : W.cell? ⟨I, 2, none⟩ = some (.int .i64 b)
  c3 : W.cell? ⟨I, 3, none⟩ = some (.int .i64 c)
  c4 : W.cell? ⟨I, 4, none⟩ = some (.int .i64 n)
theorem KI.below {w W W' : World} {I : Nat} {o a b c n : Int} (h : KI w I o a b c n W) (hb : Below W.heap.size W W') : KI w I o a b c n W' :=
  have st : ∀ (p : Addr) (u : Value), W.cell? p = some u → W'.cell? p = some u := fun p _ hv => (hb.cell (p := p) (World.block_lt_of_cell? W _ hv)).trans hv
  ⟨h.kn.below hb, st _ _ h.c0, st _ _ h.c1, st _ _ h.c2, st _ _ h.c3, st _ _ h.c4⟩
theorem KI.new {w W : World} (o a b c n : Int) (h : Kn w W) : KI w W.heap.size o a b c n (W.alloc (.cells #[.int .i64 o, .int .i64 a, .int .i64 b, .int .i64 c, .int .i64 n] 30)) :=
  ⟨h.below ((Below.refl _ _).alloc (Nat.le_refl _) _), by simp, by simp, by simp, by simp, by simp⟩
theorem ki_s {w W : World} {I : Nat} {o a b c n : Int} (h : KI w I o a b c n W) : W.cell? ⟨I, 0, none⟩ = some (.int .i64 o) ∧ W.cell? ⟨I, 1, none⟩ = some (.int .i64 a) ∧ W.cell? ⟨I, 2, none⟩ = some (.int .i64 b) ∧ W.cell? ⟨I, 3, none⟩ = some (.int .i64 c) ∧ W.cell? ⟨I, 4, none⟩ = some (.int .i64 n) ∧ KI w I o a b c n W := ⟨h.c0, h.c1, h.c2, h.c3, h.c4, h⟩
theorem ki_of {p q r t u : Prop} {w W : World} {I : Nat} {o a b c n : Int} (h : p ∧ q ∧ r ∧ t ∧ u ∧ KI w I o a b c n W) : KI w I o a b c n W := h.2.2.2.2.2
theorem check_to (o a b c n E : Int) (hE : chkOf o a b c n = E) (w : World) (ho : Ops w) : Calls Tryd.prog 15 #[.agg #[.int .i64 o, .int .i64 a, .int .i64 b, .int .i64 c, .int .i64 n]] w fun e w' => e = .returned (.int .i64 E) ∧ Below w.heap.size w w' := by
  subst hE; exact check_any o a b c n w ho
theorem refcheck_to (o a b c n E : Int) (hE : chkOf o a b c n = E) (w : World) : Calls Tryd.prog 16 #[.agg #[.int .i64 o, .int .i64 a, .int .i64 b, .int .i64 c, .int .i64 n]] w fun e w' => e = .returned (.int .i64 E) ∧ Below w.heap.size w w' := by
  subst hE; exact refcheck_any o a b c n w
set_option maxRecDepth 100000 in
set_option maxHeartbeats 4000000 in
theorem isaEncodes_walk (o a b c n : Int) (w : World) (ho : Ops w) (ht : Tab w) :
    Calls Tryd.prog 4 #[.agg #[.int .i64 o, .int .i64 a, .int .i64 b, .int .i64 c, .int .i64 n]] w fun e w' => e = .returned (.bool true) ∧ Below w.heap.size w w' := by
  have HK0 := Lib.hid (KI.new o a b c n (Kn.mk (Below.refl w.heap.size w) ho ht))
  clear ho ht
  obtain ⟨X, hX⟩ : ∃ X, wordOf o a b c n = X := ⟨_, rfl⟩
  obtain ⟨E, hE⟩ : ∃ E, chkOf o a b c n = E := ⟨_, rfl⟩
  have HX := Lib.hid hX
  have HE := Lib.hid hE
  have hxx : (X == X) = true := by simp
  have hee : (E == E) = true := by simp
  clear hX hE
  go_enter Tryd.func4, Tryd.ntmps4
  go_wp2_with fail
  refine (encode_any o a b c n _ HK0.out.kn.ops).mono ?_
  rintro e w1 ⟨rfl, hb⟩
  rw [HX.out, HE.out]
  have HK1 := Lib.hid (HK0.out.below hb)
  clear hb
  obtain ⟨_, d0, d1, d2, d3, d4⟩ := HK1.out
  go_wp2_with fail
  refine (refencode_any o a b c n _).mono ?_
  rintro e w2 ⟨rfl, hb⟩
  rw [HX.out, HE.out]
  have HK2 := Lib.hid (HK1.out.below hb)
  clear hb
  obtain ⟨_, d0, d1, d2, d3, d4⟩ := HK2.out
  go_wp2_with fail
  have hkd := HK2.out.below (Below.refl _ _).drew
  go_region_held3 (fun W => W.cell? ⟨w.heap.size, 0, none⟩ = some (.int .i64 o) ∧ W.cell? ⟨w.heap.size, 1, none⟩ = some (.int .i64 a) ∧ W.cell? ⟨w.heap.size, 2, none⟩ = some (.int .i64 b) ∧ W.cell? ⟨w.heap.size, 3, none⟩ = some (.int .i64 c) ∧ W.cell? ⟨w.heap.size, 4, none⟩ = some (.int .i64 n) ∧ KI w w.heap.size o a b c n W)
    (first | assumption | exact ki_s (by assumption))
    (first
      | (go_at_call 15; refine (check_to o a b c n E HE.out _ (ki_of (by assumption)).kn.ops).mono ?_; rintro e w3 ⟨rfl, hb3⟩; have hk3 := KI.below (ki_of (by assumption)) hb3)
      | (go_at_call 16; refine (refcheck_to o a b c n E HE.out _).mono ?_; rintro e w4 ⟨rfl, hb4⟩; have hk4 := KI.below (ki_of (by assumption)) hb4)
      | (go_at_call 12; refine (known_any _ (ki_of (by assumption)).kn.ops (ki_of (by assumption)).kn.tab).mono ?_; rintro e w5 ⟨rfl, hb5⟩; have hk5 := KI.below (ki_of (by assumption)) hb5))
  go_wp2_with fail
  go_ret
  exact ⟨rfl, hk5.kn.base⟩
end Go.Proofs.YtfmecfamiplfdaaDoor
