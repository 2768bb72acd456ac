/- An integer's text, where num's own texts do not stand. Condition: the library's table of powers of ten reads as it is laid. -/
import Derived.Test.YtlakfnlkiebpdaaDoorRtsTv
import Derived.Test.YtlakfnlkiebpdaaDoorShelf
import Derived.Lib.SmallJoins
import Derived.Lib.AppendIntMem
namespace Go.Proofs.YtlakfnlkiebpdaaDoor
open Go Go.RowKit
/-- the library's table of powers of ten -/
def TabT (w : World) : Prop := Lib.TabIs Tryd.prog w "internal/strconv.uint64pow10" .u64 Lib.pow10Tab
theorem tabT_below {w w' : World} {B : Nat} (h : TabT w) (hB : w.heap.size ≤ B) (hb : Below B w w') : TabT w' :=
  Joins.tab_stays (g := 0) (by kernel_rfl) h hb hB
set_option maxHeartbeats 400000 in
theorem numtext_any (n : Int) (h0 : -9223372036854775808 ≤ n) (h1 : n ≤ 9223372036854775807) (w : World) (ht : TabT w) :
    Calls Tryd.prog 104 #[.int .i64 n] w fun e w' => e = .returned (.string ⟨(Lib.itoa n).toArray⟩) ∧ Below w.heap.size w w' := by
  go_enter Tryd.func104, Tryd.ntmps104
  go_wp2_with (go_at_call 111; refine (Tryd.strconv_FormatInt_10 n h0 h1 _ ht).mono ?_; rintro e w' ⟨rfl, k, os, rfl⟩)
  go_ret
  exact ⟨rfl, Lib.below_grow _ _ (Nat.le_refl _) _ _⟩
end Go.Proofs.YtlakfnlkiebpdaaDoor
