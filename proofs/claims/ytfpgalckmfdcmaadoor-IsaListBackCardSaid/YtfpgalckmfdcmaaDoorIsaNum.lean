/- The number of an operation's name. Conditions: the table of operations reads as it is laid. -/
import Derived.Test.YtfpgalckmfdcmaaDoorIsaInj
namespace Go.Proofs.YtfpgalckmfdcmaaDoor
open Go Go.RowKit
/-- none of the first k operations has the name -/
def NoName (nm : List UInt8) (k : Nat) : Prop := ∀ i, 1 ≤ i → i < k → (rowOf i).1 ≠ nm
set_option maxRecDepth 100000 in
set_option maxHeartbeats 4000000 in
theorem numbered_any (nm : List UInt8) (w : World) (ho : Ops w) :
    Calls Tryd.prog 24 #[.string ⟨nm.toArray⟩] w fun e w' => (∃ k : Nat, e = .returned (.int .i64 k) ∧ k ≤ 36 ∧ ((1 ≤ k ∧ (rowOf k).1 = nm) ∨ (k = 0 ∧ NoName nm 37))) ∧ w' = w := by
  have HO := Lib.hid ho
  clear ho
  go_enter Tryd.func24, Tryd.ntmps24
  go_wp2_with fail
  go_loop [3] (fun i => ∃ k : Nat, 1 ≤ k ∧ k ≤ 37 ∧ i = .int .i64 k ∧ NoName nm k) (fun i => 37 - (intOf i).toNat)
  case atStart => exact ⟨1, by omega, by omega, rfl, fun i h1 h2 => by omega⟩
  case round =>
    obtain ⟨k, hk1, hk2, rfl, hn⟩ := hrel
    have HN := Lib.hid hn
    clear hn
    by_cases hlt : k < 37
    · obtain ⟨c1, _⟩ := HO.out k hlt
      have c1' : w.cell? ⟨0, k * 2, none⟩ = some (.string ⟨(rowOf k).1.toArray⟩) := c1
      clear c1
      obtain ⟨z, hz⟩ : ∃ z, (rowOf k).1 = z := ⟨_, rfl⟩
      rw [hz] at c1'
      have HZ := Lib.hid hz
      clear hz
      by_cases hq : z = nm
      · subst hq
        go_wp2_with fail
        go_ret
        exact ⟨⟨k, rfl, by omega, .inl ⟨hk1, HZ.out⟩⟩, rfl⟩
      · have hb : (z == nm) = false := by simpa using hq
        have HQ := Lib.hid hq
        clear hq
        go_wp2_with fail
        go_round
        case rel => exact ⟨k + 1, by omega, by omega, by go_num, fun i h1 h2 => by
          by_cases e : i = k
          · subst e; rw [HZ.out]; exact HQ.out
          · exact HN.out i h1 (by omega)⟩
        case measure => simp [intOf]; omega
    · obtain rfl : k = 37 := by omega
      go_wp2_with fail
      go_ret
      exact ⟨⟨0, rfl, by omega, .inr ⟨rfl, HN.out⟩⟩, rfl⟩
end Go.Proofs.YtfpgalckmfdcmaaDoor
