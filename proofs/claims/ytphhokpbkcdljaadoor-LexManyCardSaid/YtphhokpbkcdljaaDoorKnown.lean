/- The contract of the statements' fixed calls (known): they come out as they must. Condition: the library's table of powers of ten reads as it is laid. -/
import Derived.Test.YtphhokpbkcdljaaDoorNumB
import Derived.Test.YtphhokpbkcdljaaDoorPackAll
import Derived.Test.YtphhokpbkcdljaaDoorShelf
import Derived.Lib.SmallJoins
import Derived.Lib.AppendIntMem
namespace Go.Proofs.YtphhokpbkcdljaaDoor
open Go Go.RowKit
/-- the library's table of powers of ten -/
def Tab (w : World) : Prop := Lib.TabIs Tryd.prog w "internal/strconv.uint64pow10" .u64 Lib.pow10Tab
theorem tab_below {w w' : World} {B : Nat} (h : Tab w) (hB : w.heap.size ≤ B) (hb : Below B w w') : Tab w' :=
  Joins.tab_stays (g := 4) (by kernel_rfl) h hb hB
set_option maxHeartbeats 400000 in
theorem text_any (n : Int) (h0 : -9223372036854775808 ≤ n) (h1 : n ≤ 9223372036854775807) (w : World) (ht : Tab w) :
    Calls Tryd.prog 48 #[.int .i64 n] w fun e w' => e = .returned (.string ⟨(Lib.itoa n).toArray⟩) ∧ Below w.heap.size w w' := by
  go_enter Tryd.func48, Tryd.ntmps48
  go_wp2_with (go_at_call 62; refine (Tryd.strconv_FormatInt_10 n h0 h1 _ ht).mono ?_; rintro e w' ⟨rfl, k, os, rfl⟩)
  go_ret
  exact ⟨rfl, Lib.below_grow _ _ (Nat.le_refl _) _ _⟩
theorem itoa5 : Lib.itoa (-5) = [45, 53] := by
  unfold Lib.itoa Lib.decDigits
  decide
theorem text5 (w : World) (ht : Tab w) : Calls Tryd.prog 48 #[.int .i64 (-5)] w fun e w' => e = .returned (.string ⟨#[45, 53]⟩) ∧ Below w.heap.size w w' := by
  refine (text_any (-5) (by decide) (by decide) w ht).mono ?_
  rintro e w' ⟨rfl, hb⟩
  exact ⟨by rw [itoa5], hb⟩
end Go.Proofs.YtphhokpbkcdljaaDoor
