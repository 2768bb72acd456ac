/- MachineNil's walk: every method of a nil machine refuses, and the fixed code comes out. Conditions: the table of operations is as laid. -/
import Derived.Test.YtpoblealgooamaaGreatDoorMcKnown
import Derived.Test.YtpoblealgooamaaGreatDoorMcNil
namespace Go.Proofs.YtpoblealgooamaaGreatDoor
open Go Go.RowKit Go.Proofs.YtpoblealgooamaaGreatDoor.IsaL
set_option maxRecDepth 100000 in
set_option maxHeartbeats 16000000 in
theorem machineNil_any {w : World} (hops : Ops w) (n : Int) (c : Value) : Calls Tryz.prog 4 #[.int .i64 n, c] w fun e w' => e = .returned (.bool true) ∧ Below w.heap.size w w' := by
  have HO := Lib.hid hops
  clear hops
  go_enter Tryz.func4, Tryz.ntmps4
  go_wp2_with fail
  refine (mc_clear_nil n).mono ?_
  rintro e w' ⟨⟨v1, rfl⟩, hw'⟩
  subst w'
  go_wp2_with fail
  refine mc_collect_nil.mono ?_
  rintro e w' ⟨⟨v2, rfl⟩, hw'⟩
  subst w'
  go_wp2_with fail
  refine mc_memory_nil.mono ?_
  rintro e w' ⟨rfl, hw'⟩
  subst w'
  go_wp2_with fail
  refine (mc_load_nil c).mono ?_
  rintro e w' ⟨rfl, hw'⟩
  subst w'
  go_wp2_with fail
  refine (mc_run_nil n n n).mono ?_
  rintro e w1 ⟨rfl, hb1⟩
  have HK := Lib.hid ((mknown_any (ops_below HO.out (Nat.le_refl _) hb1)).mono (fun e w' h => And.intro h.1 (hb1.trans (h.2.mono hb1.size))))
  clear hb1
  go_wp2_with fail
  refine mc_value_nil.mono ?_
  rintro e w' ⟨rfl, hw'⟩
  subst w'
  go_wp2_with fail
  refine (mc_global_nil n).mono ?_
  rintro e w' ⟨rfl, hw'⟩
  subst w'
  go_wp2_with fail
  refine mc_live_nil.mono ?_
  rintro e w' ⟨rfl, hw'⟩
  subst w'
  go_wp2_with fail
  refine mc_copy_nil.mono ?_
  rintro e w' ⟨rfl, hw'⟩
  subst w'
  go_wp2_with fail
  refine HK.out.mono ?_
  rintro e w2 ⟨rfl, hb2⟩
  have HB := Lib.hid hb2
  clear hb2
  go_wp2_with fail
  go_ret
  exact ⟨rfl, HB.out⟩
end Go.Proofs.YtpoblealgooamaaGreatDoor
