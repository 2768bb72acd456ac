/- The walk of the statement IsaDecodes: it returns true. Conditions: the library's table of powers of ten and the table of operations read as they are laid. -/
import Derived.Test.YtfmecfamiplfdaaDoorIsaDec
import Derived.Test.YtfmecfamiplfdaaDoorIsaEncodesW
namespace Go.Proofs.YtfmecfamiplfdaaDoor
open Go Go.RowKit
set_option maxRecDepth 100000 in
set_option maxHeartbeats 4000000 in
theorem isaDecodes_walk (N : Nat) (hN : N < 18446744073709551616) (w : World) (ho : Ops w) (ht : Tab w) :
    Calls Tryd.prog 5 #[.int .u64 N] w fun e w' => e = .returned (.bool true) ∧ Below w.heap.size w w' := by
  have HK0 := Lib.hid (Kn.mk (Below.refl w.heap.size w) ho ht)
  clear ho ht
  obtain ⟨E, hE⟩ : ∃ E, dchk N = E := ⟨_, rfl⟩
  obtain ⟨o, h0⟩ : ∃ x, pk N (oN N) = x := ⟨_, rfl⟩
  obtain ⟨a, h1⟩ : ∃ x, pk N (aN N) = x := ⟨_, rfl⟩
  obtain ⟨b, h2⟩ : ∃ x, pk N (bN N) = x := ⟨_, rfl⟩
  obtain ⟨c, h3⟩ : ∃ x, pk N (cN N) = x := ⟨_, rfl⟩
  obtain ⟨n, h4⟩ : ∃ x, pk N (sN N) = x := ⟨_, rfl⟩
  have D1 := fun W => decode_any N hN W
  have D2 := fun W => refdecode_any N hN W
  simp only [h0, h1, h2, h3, h4, hE] at D1 D2
  have HD1 := Lib.hid D1
  have HD2 := Lib.hid D2
  clear h0 h1 h2 h3 h4 hE D1 D2
  go_enter Tryd.func5, Tryd.ntmps5
  go_wp2_with fail
  refine (HD1.out _ HK0.out.ops).mono ?_
  rintro e w1 ⟨rfl, hb⟩
  have HK1 := Lib.hid (KI.new o a b c n (HK0.out.below hb))
  clear hb
  go_wp2_with fail
  refine (HD2.out _).mono ?_
  rintro e w2 ⟨rfl, hb⟩
  have HK2 := Lib.hid (HK1.out.below hb)
  obtain ⟨d0, d1, d2, d3, d4, _⟩ := ki_s HK2.out
  have hz : w1.heap.size < w2.heap.size := by have := hb.size; simp at this; omega
  clear hb
  go_wp2_with fail
  have HK3 := Lib.hid (HK2.out.below ((Below.refl _ _).alloc (Nat.le_refl _) (.cells #[.int .i64 o, .int .i64 a, .int .i64 b, .int .i64 c, .int .i64 n] 30)))
  refine (known_any _ HK3.out.kn.ops HK3.out.kn.tab).mono ?_
  rintro e w3 ⟨rfl, hb⟩
  have HK4 := Lib.hid (HK3.out.below hb)
  clear hb
  go_wp2_with fail
  go_ret
  exact ⟨rfl, HK4.out.kn.base⟩
theorem isaDecodes_walk' (z : Int) (h0 : 0 ≤ z) (h1 : z ≤ 18446744073709551615) (w : World) (ho : Ops w) (ht : Tab w) :
    Calls Tryd.prog 5 #[.int .u64 z] w fun e w' => e = .returned (.bool true) ∧ Below w.heap.size w w' := by
  obtain ⟨N, rfl⟩ := Int.eq_ofNat_of_zero_le h0
  exact isaDecodes_walk N (by omega) w ho ht
end Go.Proofs.YtfmecfamiplfdaaDoor
