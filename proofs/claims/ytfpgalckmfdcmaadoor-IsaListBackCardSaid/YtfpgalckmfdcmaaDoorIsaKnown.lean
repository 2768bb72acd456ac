/- The statements' fixed calls of isa (known) come out as they must. Conditions: the library's table of powers of ten and the table of operations read as they are laid. -/
import Derived.Test.YtfpgalckmfdcmaaDoorIsaText
namespace Go.Proofs.YtfpgalckmfdcmaaDoor
open Go Go.RowKit
/-- what stays over the calls -/
structure Kn (w W : World) : Prop where
  base : Below w.heap.size w W
  ops : Ops W
  tab : Tab W
theorem Kn.below {w W W' : World} (h : Kn w W) (hb : Below W.heap.size W W') : Kn w W' :=
  ⟨h.base.trans (hb.mono h.base.size), ops_below h.ops (Nat.le_refl _) hb, tab_below h.tab (Nat.le_refl _) hb⟩
theorem enc_add (w : World) (ho : Ops w) : Calls Tryd.prog 21 #[.agg #[.int .i64 7, .int .i64 1, .int .i64 2, .int .i64 3, .int .i64 0]] w fun e w' => e = .returned (.tuple #[.int .u64 50462983, .int .i64 0]) ∧ Below w.heap.size w w' := by
  have h := encode_any 7 1 2 3 0 w ho
  rw [word_add, chk_add] at h
  exact h
theorem name_30 (w : World) (ho : Ops w) : Calls Tryd.prog 22 #[.int .i64 30] w fun e w' => e = .returned (.string ⟨#[117, 110, 104, 97, 110, 100, 108, 101]⟩) ∧ w' = w := by
  have h := name_yes 30 (by decide) (by decide) w ho
  exact h
set_option maxRecDepth 100000 in
set_option maxHeartbeats 4000000 in
theorem known_any (w : World) (ho : Ops w) (ht : Tab w) :
    Calls Tryd.prog 8 #[] w fun e w' => e = .returned (.bool true) ∧ Below w.heap.size w w' := by
  have HK := Lib.hid (Kn.mk (Below.refl w.heap.size w) ho ht)
  clear ho ht
  go_enter Tryd.func8, Tryd.ntmps8
  go_wp2_with fail
  refine (enc_add _ HK.out.ops).mono ?_
  rintro e w1 ⟨rfl, hb⟩
  have HK1 := Lib.hid (HK.out.below hb)
  clear hb
  go_wp2_with fail
  refine (text_field _ HK1.out.ops HK1.out.tab).mono ?_
  rintro e w2 ⟨rfl, hb⟩
  have HK2 := Lib.hid (HK1.out.below hb)
  clear hb
  go_wp2_with fail
  refine (name_30 _ HK2.out.ops).mono ?_
  rintro e w3 ⟨rfl, rfl⟩
  go_wp2_with fail
  go_ret
  exact ⟨rfl, HK2.out.base⟩
end Go.Proofs.YtfpgalckmfdcmaaDoor
