/- The contract of the reference's Among: a number below another. Condition: that is at least 1. -/
import Derived.Test.YtlakfnlkiebpdaaDoorMemOne
namespace Go.Proofs.YtlakfnlkiebpdaaDoor
open Go Go.RowKit
theorem among_any (k n : Int) (hn : 1 ≤ n) (hn2 : n ≤ 1000000000) (w : World) :
    Calls Tryd.prog 14 #[.int .i64 k, .int .i64 n] w fun e w' => (∃ r : Nat, (r : Int) < n ∧ e = .returned (.int .i64 r)) ∧ w = w' := by
  have t1 := Int.tmod_lt_of_pos k (show 0 < n by omega)
  have t2 : -n < k.tmod n := by
    have := Int.tmod_lt_of_pos (-k) (show 0 < n by omega)
    rw [Int.neg_tmod] at this
    omega
  obtain ⟨m, hm⟩ : ∃ m, k.tmod n = m := ⟨_, rfl⟩
  rw [hm] at t1 t2
  have hnz : (n == 0) = false := beqF (by omega)
  by_cases hneg : m < 0
  · go_enter Tryd.func14, Tryd.ntmps14
    go_wp2
    go_ret
    exact ⟨⟨(m + n).toNat, by omega, ret_int (by omega)⟩, rfl⟩
  · go_enter Tryd.func14, Tryd.ntmps14
    go_wp2
    go_ret
    exact ⟨⟨m.toNat, by omega, ret_int (by omega)⟩, rfl⟩
end Go.Proofs.YtlakfnlkiebpdaaDoor
