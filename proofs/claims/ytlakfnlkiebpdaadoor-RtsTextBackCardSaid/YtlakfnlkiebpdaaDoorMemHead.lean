/- Headers of objects: what may be one, its word and its parts, of the program and of the reference. Conditions: none. -/
import Derived.Test.YtlakfnlkiebpdaaDoorMemF
import Derived.Lib.Hide
import Derived.Laws.BitsAllLaws
namespace Go.Proofs.YtlakfnlkiebpdaaDoor
open Go Go.RowKit
/-- are they a header's parts? -/
def rightB (k s t : Int) : Bool := decide (0 ≤ s ∧ s ≤ 16384 ∧ 0 ≤ t ∧ t ≤ s ∧ ((k = 1 ∨ k = 3) ∧ 1 ≤ s ∧ t = s ∨ k = 2 ∧ s = 1 ∧ t = 1 ∨ k = 4 ∧ 1 ≤ s ∧ t = 0 ∨ k = 5))
theorem right_yes {k s t : Int} (h : 0 ≤ s ∧ s ≤ 16384 ∧ 0 ≤ t ∧ t ≤ s ∧ ((k = 1 ∨ k = 3) ∧ 1 ≤ s ∧ t = s ∨ k = 2 ∧ s = 1 ∧ t = 1 ∨ k = 4 ∧ 1 ≤ s ∧ t = 0 ∨ k = 5)) : rightB k s t = true := decide_eq_true h
theorem right_no {k s t : Int} (h : ¬ (0 ≤ s ∧ s ≤ 16384 ∧ 0 ≤ t ∧ t ≤ s ∧ ((k = 1 ∨ k = 3) ∧ 1 ≤ s ∧ t = s ∨ k = 2 ∧ s = 1 ∧ t = 1 ∨ k = 4 ∧ 1 ≤ s ∧ t = 0 ∨ k = 5))) : rightB k s t = false := decide_eq_false h
theorem ret_int {k : IntKind} {a b : Int} (h : a = b) : Ending.returned (.int k a) = .returned (.int k b) := by rw [h]
theorem ret_bool {a b : Bool} (h : a = b) : Ending.returned (.bool a) = .returned (.bool b) := by rw [h]
theorem beqT {a b : Int} (h : a = b) : (a == b) = true := by simpa using h
theorem beqF {a b : Int} (h : a ≠ b) : (a == b) = false := by simpa using h
theorem bneT {a b : Int} (h : a ≠ b) : (a != b) = true := by simpa using h
theorem bneF {a b : Int} (h : a = b) : (a != b) = false := by simpa using h
set_option maxHeartbeats 1000000 in
theorem headed_b0 (k s t : Int) (h0 : s < 0) (w : World) : Calls Tryd.prog 102 #[.int .i64 k, .int .i64 s, .int .i64 t] w fun e w' => e = .returned (.bool false) ∧ w = w' := by
  go_enter Tryd.func102, Tryd.ntmps102
  go_wp2
  go_ret
  exact ⟨rfl, rfl⟩
set_option maxHeartbeats 1000000 in
theorem headed_b1 (k s t : Int) (h1 : 16384 < s) (w : World) : Calls Tryd.prog 102 #[.int .i64 k, .int .i64 s, .int .i64 t] w fun e w' => e = .returned (.bool false) ∧ w = w' := by
  have q0 := (show ¬ s < 0 by omega)
  go_enter Tryd.func102, Tryd.ntmps102
  go_wp2
  go_ret
  exact ⟨rfl, rfl⟩
set_option maxHeartbeats 1000000 in
theorem headed_b2 (k s t : Int) (h0 : 0 ≤ s) (h1 : s ≤ 16384) (h2 : t < 0) (w : World) : Calls Tryd.prog 102 #[.int .i64 k, .int .i64 s, .int .i64 t] w fun e w' => e = .returned (.bool false) ∧ w = w' := by
  go_enter Tryd.func102, Tryd.ntmps102
  go_wp2
  go_ret
  exact ⟨rfl, rfl⟩
set_option maxHeartbeats 1000000 in
theorem headed_b3 (k s t : Int) (h0 : 0 ≤ s) (h1 : s ≤ 16384) (h2 : 0 ≤ t) (h3 : s < t) (w : World) : Calls Tryd.prog 102 #[.int .i64 k, .int .i64 s, .int .i64 t] w fun e w' => e = .returned (.bool false) ∧ w = w' := by
  go_enter Tryd.func102, Tryd.ntmps102
  go_wp2
  go_ret
  exact ⟨rfl, rfl⟩
set_option maxHeartbeats 1000000 in
theorem headed_k1z (s t : Int) (h0 : 0 ≤ s) (h1 : s ≤ 16384) (h2 : 0 ≤ t) (h3 : t ≤ s) (g : s < 1) (w : World) : Calls Tryd.prog 102 #[.int .i64 1, .int .i64 s, .int .i64 t] w fun e w' => e = .returned (.bool false) ∧ w = w' := by
  go_enter Tryd.func102, Tryd.ntmps102
  go_wp2
  go_ret
  exact ⟨rfl, rfl⟩
set_option maxHeartbeats 1000000 in
theorem headed_k1n (s t : Int) (h0 : 0 ≤ s) (h1 : s ≤ 16384) (h2 : 0 ≤ t) (h3 : t ≤ s) (g : 1 ≤ s) (e : t ≠ s) (w : World) : Calls Tryd.prog 102 #[.int .i64 1, .int .i64 s, .int .i64 t] w fun e w' => e = .returned (.bool false) ∧ w = w' := by
  have q0 := beqF e
  go_enter Tryd.func102, Tryd.ntmps102
  go_wp2
  go_ret
  exact ⟨rfl, rfl⟩
set_option maxHeartbeats 1000000 in
theorem headed_k1y (s : Int) (h0 : 0 ≤ s) (h1 : s ≤ 16384) (g : 1 ≤ s) (w : World) : Calls Tryd.prog 102 #[.int .i64 1, .int .i64 s, .int .i64 s] w fun e w' => e = .returned (.bool true) ∧ w = w' := by
  go_enter Tryd.func102, Tryd.ntmps102
  go_wp2
  go_ret
  exact ⟨rfl, rfl⟩
set_option maxHeartbeats 1000000 in
theorem headed_k3z (s t : Int) (h0 : 0 ≤ s) (h1 : s ≤ 16384) (h2 : 0 ≤ t) (h3 : t ≤ s) (g : s < 1) (w : World) : Calls Tryd.prog 102 #[.int .i64 3, .int .i64 s, .int .i64 t] w fun e w' => e = .returned (.bool false) ∧ w = w' := by
  go_enter Tryd.func102, Tryd.ntmps102
  go_wp2
  go_ret
  exact ⟨rfl, rfl⟩
set_option maxHeartbeats 1000000 in
theorem headed_k3n (s t : Int) (h0 : 0 ≤ s) (h1 : s ≤ 16384) (h2 : 0 ≤ t) (h3 : t ≤ s) (g : 1 ≤ s) (e : t ≠ s) (w : World) : Calls Tryd.prog 102 #[.int .i64 3, .int .i64 s, .int .i64 t] w fun e w' => e = .returned (.bool false) ∧ w = w' := by
  have q0 := beqF e
  go_enter Tryd.func102, Tryd.ntmps102
  go_wp2
  go_ret
  exact ⟨rfl, rfl⟩
set_option maxHeartbeats 1000000 in
theorem headed_k3y (s : Int) (h0 : 0 ≤ s) (h1 : s ≤ 16384) (g : 1 ≤ s) (w : World) : Calls Tryd.prog 102 #[.int .i64 3, .int .i64 s, .int .i64 s] w fun e w' => e = .returned (.bool true) ∧ w = w' := by
  go_enter Tryd.func102, Tryd.ntmps102
  go_wp2
  go_ret
  exact ⟨rfl, rfl⟩
set_option maxHeartbeats 1000000 in
theorem headed_k2n (s t : Int) (h0 : 0 ≤ s) (h1 : s ≤ 16384) (h2 : 0 ≤ t) (h3 : t ≤ s) (g : s ≠ 1) (w : World) : Calls Tryd.prog 102 #[.int .i64 2, .int .i64 s, .int .i64 t] w fun e w' => e = .returned (.bool false) ∧ w = w' := by
  have q0 := beqF g
  go_enter Tryd.func102, Tryd.ntmps102
  go_wp2
  go_ret
  exact ⟨rfl, rfl⟩
set_option maxHeartbeats 1000000 in
theorem headed_k2m (t : Int) (h2 : 0 ≤ t) (h3 : t ≤ 1) (e : t ≠ 1) (w : World) : Calls Tryd.prog 102 #[.int .i64 2, .int .i64 1, .int .i64 t] w fun e w' => e = .returned (.bool false) ∧ w = w' := by
  have q0 := beqF e
  go_enter Tryd.func102, Tryd.ntmps102
  go_wp2
  go_ret
  exact ⟨rfl, rfl⟩
set_option maxHeartbeats 1000000 in
theorem headed_k2y   (w : World) : Calls Tryd.prog 102 #[.int .i64 2, .int .i64 1, .int .i64 1] w fun e w' => e = .returned (.bool true) ∧ w = w' := by
  go_enter Tryd.func102, Tryd.ntmps102
  go_wp2
  go_ret
  exact ⟨rfl, rfl⟩
set_option maxHeartbeats 1000000 in
theorem headed_k4z (s t : Int) (h0 : 0 ≤ s) (h1 : s ≤ 16384) (h2 : 0 ≤ t) (h3 : t ≤ s) (g : s < 1) (w : World) : Calls Tryd.prog 102 #[.int .i64 4, .int .i64 s, .int .i64 t] w fun e w' => e = .returned (.bool false) ∧ w = w' := by
  go_enter Tryd.func102, Tryd.ntmps102
  go_wp2
  go_ret
  exact ⟨rfl, rfl⟩
set_option maxHeartbeats 1000000 in
theorem headed_k4n (s t : Int) (h0 : 0 ≤ s) (h1 : s ≤ 16384) (h2 : 0 ≤ t) (h3 : t ≤ s) (g : 1 ≤ s) (e : t ≠ 0) (w : World) : Calls Tryd.prog 102 #[.int .i64 4, .int .i64 s, .int .i64 t] w fun e w' => e = .returned (.bool false) ∧ w = w' := by
  have q0 := beqF e
  go_enter Tryd.func102, Tryd.ntmps102
  go_wp2
  go_ret
  exact ⟨rfl, rfl⟩
set_option maxHeartbeats 1000000 in
theorem headed_k4y (s : Int) (h0 : 0 ≤ s) (h1 : s ≤ 16384) (g : 1 ≤ s) (w : World) : Calls Tryd.prog 102 #[.int .i64 4, .int .i64 s, .int .i64 0] w fun e w' => e = .returned (.bool true) ∧ w = w' := by
  go_enter Tryd.func102, Tryd.ntmps102
  go_wp2
  go_ret
  exact ⟨rfl, rfl⟩
set_option maxHeartbeats 1000000 in
theorem headed_k5 (s t : Int) (h0 : 0 ≤ s) (h1 : s ≤ 16384) (h2 : 0 ≤ t) (h3 : t ≤ s) (w : World) : Calls Tryd.prog 102 #[.int .i64 5, .int .i64 s, .int .i64 t] w fun e w' => e = .returned (.bool true) ∧ w = w' := by
  go_enter Tryd.func102, Tryd.ntmps102
  go_wp2
  go_ret
  exact ⟨rfl, rfl⟩
set_option maxHeartbeats 1000000 in
theorem headed_kx (k s t : Int) (h0 : 0 ≤ s) (h1 : s ≤ 16384) (h2 : 0 ≤ t) (h3 : t ≤ s) (e1 : k ≠ 1) (e2 : k ≠ 2) (e3 : k ≠ 3) (e4 : k ≠ 4) (e5 : k ≠ 5) (w : World) : Calls Tryd.prog 102 #[.int .i64 k, .int .i64 s, .int .i64 t] w fun e w' => e = .returned (.bool false) ∧ w = w' := by
  have q0 := beqF e1
  have q1 := beqF e2
  have q2 := beqF e3
  have q3 := beqF e4
  have q4 := beqF e5
  go_enter Tryd.func102, Tryd.ntmps102
  go_wp2
  go_ret
  exact ⟨rfl, rfl⟩
theorem headed_any (k s t : Int) (w : World) : Calls Tryd.prog 102 #[.int .i64 k, .int .i64 s, .int .i64 t] w fun e w' => e = .returned (.bool (rightB k s t)) ∧ w = w' := by
  by_cases h0 : s < 0
  · rw [right_no (by omega)]; exact headed_b0 k s t h0 w
  by_cases h1 : 16384 < s
  · rw [right_no (by omega)]; exact headed_b1 k s t h1 w
  by_cases h2 : t < 0
  · rw [right_no (by omega)]; exact headed_b2 k s t (by omega) (by omega) h2 w
  by_cases h3 : s < t
  · rw [right_no (by omega)]; exact headed_b3 k s t (by omega) (by omega) (by omega) h3 w
  by_cases e1 : k = 1
  · subst e1
    by_cases g : s < 1
    · rw [right_no (by omega)]; exact headed_k1z s t (by omega) (by omega) (by omega) (by omega) g w
    by_cases e : t = s
    · subst e; rw [right_yes (by omega)]; exact headed_k1y t (by omega) (by omega) (by omega) w
    · rw [right_no (by omega)]; exact headed_k1n s t (by omega) (by omega) (by omega) (by omega) (by omega) e w
  by_cases e3 : k = 3
  · subst e3
    by_cases g : s < 1
    · rw [right_no (by omega)]; exact headed_k3z s t (by omega) (by omega) (by omega) (by omega) g w
    by_cases e : t = s
    · subst e; rw [right_yes (by omega)]; exact headed_k3y t (by omega) (by omega) (by omega) w
    · rw [right_no (by omega)]; exact headed_k3n s t (by omega) (by omega) (by omega) (by omega) (by omega) e w
  by_cases e2 : k = 2
  · subst e2
    by_cases g : s = 1
    · subst g
      by_cases e : t = 1
      · subst e; rw [right_yes (by omega)]; exact headed_k2y w
      · rw [right_no (by omega)]; exact headed_k2m t (by omega) (by omega) e w
    · rw [right_no (by omega)]; exact headed_k2n s t (by omega) (by omega) (by omega) (by omega) g w
  by_cases e4 : k = 4
  · subst e4
    by_cases g : s < 1
    · rw [right_no (by omega)]; exact headed_k4z s t (by omega) (by omega) (by omega) (by omega) g w
    by_cases e : t = 0
    · subst e; rw [right_yes (by omega)]; exact headed_k4y s (by omega) (by omega) (by omega) w
    · rw [right_no (by omega)]; exact headed_k4n s t (by omega) (by omega) (by omega) (by omega) (by omega) e w
  by_cases e5 : k = 5
  · subst e5; rw [right_yes (by omega)]; exact headed_k5 s t (by omega) (by omega) (by omega) (by omega) w
  · rw [right_no (by omega)]; exact headed_kx k s t (by omega) (by omega) (by omega) (by omega) e1 e2 e3 e4 e5 w
end Go.Proofs.YtlakfnlkiebpdaaDoor
