/- Contracts of isa's leaves: known, Name. Conditions: the table of operations reads as it is laid. -/
import Derived.Test.YtpoblealgooamaaGreatDoorIsaFind
namespace Go.Proofs.YtpoblealgooamaaGreatDoor.IsaL
open Go Go.RowKit
def partsL : List Nat := [0, 9, 9, 3, 9, 9, 9, 7, 7, 7, 7, 7, 3, 7, 7, 7, 9, 9, 3, 11, 11, 3, 3, 8, 9, 8, 3, 3, 1, 8, 0, 1, 7, 3, 3, 7, 3]
def partsOf (n : Nat) : Nat := partsL.getD n 0
/-- the table of operations as it is laid -/
def Ops (w : World) : Prop := ∀ n, n < 37 → w.cell? ⟨0, n * 2, none⟩ = some (strV (rowOf n).1) ∧ w.cell? ⟨0, n * 2 + 1, none⟩ = some (.int .i64 (partsOf n : Nat))
theorem ops_below {w w' : World} {B : Nat} (h : Ops w) (hB : w.heap.size ≤ B) (hb : Below B w w') : Ops w' := fun n hn =>
  have lt := World.block_lt_of_cell? w _ (h n hn).1
  ⟨(hb.cell (p := ⟨0, n * 2, none⟩) (Nat.lt_of_lt_of_le lt hB)).trans (h n hn).1, (hb.cell (p := ⟨0, n * 2 + 1, none⟩) (Nat.lt_of_lt_of_le lt hB)).trans (h n hn).2⟩
theorem ret_int' {k : IntKind} {a b : Int} (h : a = b) : Ending.returned (.int k a) = .returned (.int k b) := by rw [h]
theorem ret_bool {a b : Bool} (h : a = b) : Ending.returned (.bool a) = .returned (.bool b) := by rw [h]
theorem known_yes (op : Int) (h0 : 1 ≤ op) (h1 : op ≤ 36) (w : World) : Calls Tryz.prog 111 #[.int .i64 op] w fun e w' => e = .returned (.bool true) ∧ w' = w := by
  go_enter Tryz.func111, Tryz.ntmps111
  go_wp2
  go_ret
  exact ⟨ret_bool (by simp), rfl⟩
theorem known_no (op : Int) (h : op < 1 ∨ 36 < op) (w : World) : Calls Tryz.prog 111 #[.int .i64 op] w fun e w' => e = .returned (.bool false) ∧ w' = w := by
  go_enter Tryz.func111, Tryz.ntmps111
  go_wp2
  all_goals
    go_ret
    exact ⟨ret_bool (by first | (simp; done) | (simp; omega)), rfl⟩
def hasB (s : ByteArray) (c : Int) : Bool := s.data.toList.any fun b => (b.toNat : Int) == c
def NoC (s : ByteArray) (c : Int) (k : Nat) : Prop := ∀ j (h : j < s.size), j < k → ((s[j]).toNat : Int) ≠ c
theorem noc_step {s : ByteArray} {c : Int} {k : Nat} (h : NoC s c k) (hk : k < s.size) (hc : ((s[k]).toNat : Int) ≠ c) : NoC s c (k + 1) := fun j hj hjk => by
  by_cases e : j = k
  · subst e; exact hc
  · exact h j hj (by omega)
theorem noc_end {s : ByteArray} {c : Int} (h : NoC s c s.size) : hasB s c = false := by
  unfold hasB
  rw [List.any_eq_false]
  intro b hb
  obtain ⟨j, hj, rfl⟩ := List.getElem_of_mem hb
  have := h j (by simpa using hj) (by simpa using hj)
  simpa [ByteArray.getElem_eq_getElem_data] using this
theorem has_hit {s : ByteArray} {c : Int} {k : Nat} (hk : k < s.size) (hc : ((s[k]).toNat : Int) = c) : hasB s c = true := by
  unfold hasB
  rw [List.any_eq_true]
  exact ⟨s[k], by simp [ByteArray.getElem_eq_getElem_data], by simpa using hc⟩
set_option maxHeartbeats 1000000 in
theorem has_any (s : ByteArray) (c : Int) (hs : s.size ≤ 100) (w : World) : Calls Tryz.prog 136 #[.string s, .int .u8 c] w fun e w' => e = .returned (.bool (hasB s c)) ∧ w' = w := by
  go_enter Tryz.func136, Tryz.ntmps136
  go_wp2_with fail
  go_loop [5] (fun i => ∃ k : Nat, k ≤ s.size ∧ i = .int .i64 k ∧ NoC s c k) (fun i => s.size - (intOf i).toNat)
  case atStart => exact ⟨0, by omega, rfl, fun _ _ h => absurd h (by omega)⟩
  case round =>
    obtain ⟨k, hk, rfl, hN⟩ := hrel
    have HN := Lib.hid hN
    clear hN
    by_cases hlt : k < s.size
    · by_cases hc : ((s[k]).toNat : Int) = c
      · have hcb : (((s[k]).toNat : Int) == c) = true := by simpa using hc
        have HH := Lib.hid (has_hit hlt hc)
        clear hc
        go_wp2_with fail
        go_ret
        exact ⟨by rw [HH.out]; rfl, rfl⟩
      · have hcb : (((s[k]).toNat : Int) == c) = false := by simpa using hc
        have HH := Lib.hid (noc_step HN.out hlt hc)
        clear hc
        go_wp2_with fail
        go_round
        case rel => exact ⟨k + 1, hlt, by simp, HH.out⟩
        case measure => simp [intOf]; omega
    · obtain rfl : k = s.size := by omega
      have HE := Lib.hid (noc_end HN.out)
      go_wp2_with fail
      go_ret
      exact ⟨by rw [HE.out]; rfl, rfl⟩
def letterOf (a b c n k : Int) : Int := if k = 97 then a else if k = 98 then b else if k = 99 then c else if k = 48 then 0 else n
def insV (o a b c n : Int) : Value := .agg #[.int .i64 o, .int .i64 a, .int .i64 b, .int .i64 c, .int .i64 n]
theorem letter_any (o a b c n k : Int) (w : World) : Calls Tryz.prog 135 #[.agg #[.int .i64 o, .int .i64 a, .int .i64 b, .int .i64 c, .int .i64 n], .int .u8 k] w fun e w' => e = .returned (.int .i64 (letterOf a b c n k)) ∧ Below w.heap.size w w' := by
  go_enter Tryz.func135, Tryz.ntmps135
  go_wp2_with fail
  all_goals
    go_ret
    exact ⟨ret_int' (by simp_all [letterOf]), (Below.refl _ w).alloc (Nat.le_refl _) _⟩
end Go.Proofs.YtpoblealgooamaaGreatDoor.IsaL
