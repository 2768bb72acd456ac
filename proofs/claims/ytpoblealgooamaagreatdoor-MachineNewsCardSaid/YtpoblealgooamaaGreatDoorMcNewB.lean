/- What machine.New and the document's New refuse: a stack or a memory of a size that may not be. Conditions: none. -/
import Derived.Test.YtpoblealgooamaaGreatDoorMcKnown
namespace Go.Proofs.YtpoblealgooamaaGreatDoor
open Go Go.RowKit Go.Proofs.YtpoblealgooamaaGreatDoor.IsaL
set_option maxRecDepth 100000 in
set_option maxHeartbeats 8000000 in
theorem mcnew_stack {S : Int} (hS : S < 16 ∨ 65536 < S) (W : Int) (w : World) : Calls Tryz.prog 5 #[.int .i64 W, .int .i64 S] w fun e w' => e = .returned (.tuple #[.pointer none, .int .i64 1]) ∧ w' = w := by
  rcases Int.lt_or_le S 16 with h | h
  · have d0 : decide (S < 16) = true := decide_eq_true h
    clear hS
    go_enter Tryz.func5, Tryz.ntmps5
    go_wp2_with fail
    go_ret2
    exact ⟨rfl, rfl⟩
  · have d0 : decide (S < 16) = false := decide_eq_false (by omega)
    have d1 : decide ((65536 : Int) < S) = true := decide_eq_true (by omega)
    clear hS
    go_enter Tryz.func5, Tryz.ntmps5
    go_wp2_with fail
    go_ret2
    exact ⟨rfl, rfl⟩
set_option maxRecDepth 100000 in
set_option maxHeartbeats 8000000 in
theorem mcnew_words {S W : Int} (h : 16 ≤ S ∧ S ≤ 65536) (hW : W < 64 ∨ 65536 < W) (w : World) : Calls Tryz.prog 5 #[.int .i64 W, .int .i64 S] w fun e w' => e = .returned (.tuple #[.pointer none, .int .i64 1]) ∧ w' = w := by
  have HB := Lib.hid (new_bad W hW w)
  have d0 : decide (S < 16) = false := decide_eq_false (by omega)
  have d1 : decide ((65536 : Int) < S) = false := decide_eq_false (by omega)
  clear h hW
  go_enter Tryz.func5, Tryz.ntmps5
  go_wp2_with fail
  refine (HB.out).mono ?_
  rintro e w' ⟨rfl, hw'⟩
  subst w'
  go_wp2_with fail
  go_ret2
  exact ⟨rfl, rfl⟩
/-- both sizes are as the document asks -/
def sizeOk (W S : Int) : Prop := 64 ≤ W ∧ W ≤ 65536 ∧ 16 ≤ S ∧ S ≤ 65536
theorem mcnew_bad {W S : Int} (h : ¬ sizeOk W S) (w : World) : Calls Tryz.prog 5 #[.int .i64 W, .int .i64 S] w fun e w' => e = .returned (.tuple #[.pointer none, .int .i64 1]) ∧ w' = w := by
  unfold sizeOk at h
  by_cases hs : S < 16 ∨ 65536 < S
  · exact mcnew_stack hs W w
  · exact mcnew_words (by omega) (by omega) w
set_option maxRecDepth 100000 in
set_option maxHeartbeats 8000000 in
theorem refnew_bad {W S : Int} (h : ¬ sizeOk W S) (w : World) : Calls Tryz.prog 6 #[.int .i64 W, .int .i64 S] w fun e w' => e = .returned (.tuple #[.pointer none, .bool false]) ∧ w' = w := by
  unfold sizeOk at h
  rcases Int.lt_or_le W 64 with h1 | h1
  · have d0 : decide (W < 64) = true := decide_eq_true h1
    clear h
    go_enter Tryz.func6, Tryz.ntmps6
    go_wp2_with fail
    go_ret2
    exact ⟨rfl, rfl⟩
  have d0 : decide (W < 64) = false := decide_eq_false (by omega)
  rcases Int.lt_or_le 65536 W with h2 | h2
  · have d1 : decide ((65536 : Int) < W) = true := decide_eq_true h2
    clear h h1
    go_enter Tryz.func6, Tryz.ntmps6
    go_wp2_with fail
    go_ret2
    exact ⟨rfl, rfl⟩
  have d1 : decide ((65536 : Int) < W) = false := decide_eq_false (by omega)
  rcases Int.lt_or_le S 16 with h3 | h3
  · have d2 : decide (S < 16) = true := decide_eq_true h3
    clear h h1 h2
    go_enter Tryz.func6, Tryz.ntmps6
    go_wp2_with fail
    go_ret2
    exact ⟨rfl, rfl⟩
  have d2 : decide (S < 16) = false := decide_eq_false (by omega)
  have d3 : decide ((65536 : Int) < S) = true := decide_eq_true (by omega)
  clear h h1 h2 h3
  go_enter Tryz.func6, Tryz.ntmps6
  go_wp2_with fail
  go_ret2
  exact ⟨rfl, rfl⟩
set_option maxRecDepth 100000 in
set_option maxHeartbeats 16000000 in
/-- MachineNews, where the sizes may not be -/
theorem machineNews_bad {w : World} (hops : Ops w) {W S : Int} (h : ¬ sizeOk W S) : Calls Tryz.prog 3 #[.int .i64 W, .int .i64 S] w fun e w' => e = .returned (.bool true) ∧ Below w.heap.size w w' := by
  have HK := Lib.hid (mknown_any hops)
  have HM := Lib.hid (mcnew_bad h)
  have HR := Lib.hid (refnew_bad h)
  clear hops h
  go_enter Tryz.func3, Tryz.ntmps3
  go_wp2_with fail
  refine (HM.out _).mono ?_
  rintro e w' ⟨rfl, hw'⟩
  subst w'
  go_wp2_with fail
  refine (HR.out _).mono ?_
  rintro e w' ⟨rfl, hw'⟩
  subst w'
  go_wp2_with fail
  refine HK.out.mono ?_
  rintro e w2 ⟨rfl, hb2⟩
  have HB := Lib.hid hb2
  clear hb2
  go_wp2_with fail
  go_ret
  exact ⟨rfl, HB.out⟩
end Go.Proofs.YtpoblealgooamaaGreatDoor
