/- A machine's globals as they are asked for. Conditions: the machine is there. -/
import Derived.Test.YtpoblealgooamaaGreatDoorMcNewB
namespace Go.Proofs.YtpoblealgooamaaGreatDoor
open Go Go.RowKit Go.Proofs.YtpoblealgooamaaGreatDoor.IsaL
set_option maxRecDepth 100000 in
theorem isglobal_no {n : Int} (h : n < 0 ∨ 1024 ≤ n) (w : World) : Calls Tryz.prog 25 #[.int .i64 n] w fun e w' => e = .returned (.bool false) ∧ w' = w := by
  rcases Int.lt_or_le n 0 with h0 | h0
  · have d0 : decide ((0 : Int) ≤ n) = false := decide_eq_false (by omega)
    clear h h0
    go_enter Tryz.func25, Tryz.ntmps25
    go_wp2_with fail
    go_ret
    exact ⟨rfl, rfl⟩
  · have d0 : decide ((0 : Int) ≤ n) = true := decide_eq_true h0
    have d1 : decide (n < 1024) = false := decide_eq_false (by omega)
    clear h h0
    go_enter Tryz.func25, Tryz.ntmps25
    go_wp2_with fail
    go_ret
    exact ⟨rfl, rfl⟩
set_option maxRecDepth 100000 in
theorem isglobal_yes {n : Int} (h0 : 0 ≤ n) (h1 : n < 1024) (w : World) : Calls Tryz.prog 25 #[.int .i64 n] w fun e w' => e = .returned (.bool true) ∧ w' = w := by
  have d0 : decide ((0 : Int) ≤ n) = true := decide_eq_true h0
  have d1 : decide (n < 1024) = true := decide_eq_true h1
  clear h0 h1
  go_enter Tryz.func25, Tryz.ntmps25
  go_wp2_with fail
  go_ret
  exact ⟨rfl, rfl⟩
set_option maxRecDepth 100000 in
theorem global_no {w : World} {g b : Nat} {F : Nat → Value} {n : Int} (hx : Bx w g F) (h0 : F 0 = .pointer (some ⟨b, 0, none⟩)) (hn : n < 0 ∨ 1024 ≤ n) : Calls Tryz.prog 10 #[.pointer (some ⟨g, 0, none⟩), .int .i64 n] w fun e w' => e = .returned (.int .u64 1) ∧ w' = w := by
  have HN := Lib.hid (none_mc hx h0)
  have HG := Lib.hid (isglobal_no hn)
  have HI := Lib.hid one_any
  clear hx h0 hn
  go_enter Tryz.func10, Tryz.ntmps10
  go_wp2_with fail
  refine (HN.out).mono ?_
  rintro e w' ⟨rfl, hw'⟩
  subst w'
  go_wp2_with fail
  refine ((HG.out _)).mono ?_
  rintro e w' ⟨rfl, hw'⟩
  subst w'
  go_wp2_with fail
  refine ((HI.out _)).mono ?_
  rintro e w' ⟨rfl, hw'⟩
  subst w'
  go_wp2_with fail
  go_ret
  exact ⟨rfl, rfl⟩
set_option maxRecDepth 100000 in
theorem global_at {w : World} {g b k : Nat} {F : Nat → Value} {v : Int} (hx : Bx w g F) (h0 : F 0 = .pointer (some ⟨b, 0, none⟩)) (hk : k < 1024) (hv : F (18 + k) = .int .u64 v) : Calls Tryz.prog 10 #[.pointer (some ⟨g, 0, none⟩), .int .i64 k] w fun e w' => e = .returned (.int .u64 v) ∧ w' = w := by
  have HN := Lib.hid (none_mc hx h0)
  have HG := Lib.hid (isglobal_yes (n := (k : Int)) (by omega) (by omega))
  have c := hx.cell (j := 18 + k) (by omega)
  rw [hv] at c
  have hk2 : (k : Int) < 1024 := by omega
  clear hx h0 hv
  go_enter Tryz.func10, Tryz.ntmps10
  go_wp2_with fail
  refine (HN.out).mono ?_
  rintro e w' ⟨rfl, hw'⟩
  subst w'
  go_wp2_with fail
  refine ((HG.out _)).mono ?_
  rintro e w' ⟨rfl, hw'⟩
  subst w'
  go_wp2_with fail
  go_ret
  exact ⟨rfl, rfl⟩
end Go.Proofs.YtpoblealgooamaaGreatDoor
