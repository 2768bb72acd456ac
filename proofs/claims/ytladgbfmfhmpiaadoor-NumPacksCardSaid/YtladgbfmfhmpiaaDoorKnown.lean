/- The contract of the statements' fixed calls (known): they come out as they must. Condition: the library's table of powers of ten reads as it is laid. -/
import Derived.Test.YtladgbfmfhmpiaaDoorNumB
import Derived.Test.YtladgbfmfhmpiaaDoorPackB
import Derived.Test.YtladgbfmfhmpiaaDoorShelf
import Derived.Lib.SmallJoins
import Derived.Lib.AppendIntMem
namespace Go.Proofs.YtladgbfmfhmpiaaDoor
open Go Go.RowKit
/-- the library's table of powers of ten -/
def Tab (w : World) : Prop := Lib.TabIs Tryd.prog w "internal/strconv.uint64pow10" .u64 Lib.pow10Tab
theorem tab_below {w w' : World} {B : Nat} (h : Tab w) (hB : w.heap.size ≤ B) (hb : Below B w w') : Tab w' :=
  Joins.tab_stays (g := 0) (by kernel_rfl) h hb hB
set_option maxHeartbeats 400000 in
theorem text_any (n : Int) (h0 : -9223372036854775808 ≤ n) (h1 : n ≤ 9223372036854775807) (w : World) (ht : Tab w) :
    Calls Tryd.prog 33 #[.int .i64 n] w fun e w' => e = .returned (.string ⟨(Lib.itoa n).toArray⟩) ∧ Below w.heap.size w w' := by
  go_enter Tryd.func33, Tryd.ntmps33
  go_wp2_with (go_at_call 58; refine (Tryd.strconv_FormatInt_10 n h0 h1 _ ht).mono ?_; rintro e w' ⟨rfl, k, os, rfl⟩)
  go_ret
  exact ⟨rfl, Lib.below_grow _ _ (Nat.le_refl _) _ _⟩
theorem itoa5 : Lib.itoa (-5) = [45, 53] := by
  unfold Lib.itoa Lib.decDigits
  decide
theorem text5 (w : World) (ht : Tab w) : Calls Tryd.prog 33 #[.int .i64 (-5)] w fun e w' => e = .returned (.string ⟨#[45, 53]⟩) ∧ Below w.heap.size w w' := by
  refine (text_any (-5) (by decide) (by decide) w ht).mono ?_
  rintro e w' ⟨rfl, hb⟩
  exact ⟨by rw [itoa5], hb⟩
theorem pack9 (w : World) : Calls Tryd.prog 52 #[.string ⟨#[97, 98, 99, 100, 101, 102, 103, 104, 105]⟩] w fun e w' => ∃ g cap, e = .returned (.slice (some ⟨g, 0, none⟩) 2 cap) ∧ Below w.heap.size w w' := by
  refine (pack_any ⟨#[97, 98, 99, 100, 101, 102, 103, 104, 105]⟩ (by decide) w).mono ?_
  rintro e w' ⟨v, rfl, hv, hb⟩
  obtain ⟨g, cap, rfl⟩ := ownsRow_succ (k := 1) hv
  exact ⟨g, cap, rfl, hb⟩
theorem div72 (w : World) : Calls Tryd.prog 26 #[.int .i64 (-7), .int .i64 2] w fun e w' => e = .returned (.tuple #[.int .i64 (-4), .int .i64 0]) ∧ w = w' := by
  refine (div_any (-7) 2 w).mono ?_
  rintro e w' ⟨rfl, rfl⟩
  exact ⟨ret22 (by decide) (by decide), rfl⟩
theorem add_top (w : World) : Calls Tryd.prog 17 #[.int .i64 4611686018427387903, .int .i64 1] w fun e w' => e = .returned (.int .i64 (-4611686018427387904)) ∧ w = w' := by
  refine (add_any _ 1 w).mono ?_
  rintro e w' ⟨rfl, rfl⟩
  exact ⟨ret_int (by decide), rfl⟩
theorem int3 (w : World) : Calls Tryd.prog 30 #[.int .i64 3] w fun e w' => e = .returned (.int .u64 7) ∧ w = w' := by
  refine (int_any 3 w).mono ?_
  rintro e w' ⟨rfl, rfl⟩
  exact ⟨ret_int (by decide), rfl⟩
theorem ptr3 (w : World) : Calls Tryd.prog 36 #[.int .i64 3] w fun e w' => e = .returned (.int .u64 6) ∧ w = w' := by
  refine (ptr_any 3 w).mono ?_
  rintro e w' ⟨rfl, rfl⟩
  exact ⟨ret_int (by decide), rfl⟩
set_option maxHeartbeats 1000000 in
theorem known_any (w : World) (ht : Tab w) :
    Calls Tryd.prog 25 #[] w fun e w' => e = .returned (.bool true) ∧ Below w.heap.size w w' := by
  go_enter Tryd.func25, Tryd.ntmps25
  go_wp2_with fail
  refine (div72 _).mono ?_
  rintro e w' ⟨rfl, rfl⟩
  go_wp2_with fail
  refine (add_top _).mono ?_
  rintro e w' ⟨rfl, rfl⟩
  go_wp2_with fail
  refine (text5 _ ht).mono ?_
  rintro e w1 ⟨rfl, hb1⟩
  go_wp2_with fail
  refine (int3 _).mono ?_
  rintro e w' ⟨rfl, rfl⟩
  go_wp2_with fail
  refine (ptr3 _).mono ?_
  rintro e w' ⟨rfl, rfl⟩
  go_wp2_with fail
  refine (pack9 _).mono ?_
  rintro e w2 ⟨g, cap, rfl, hb2⟩
  go_wp2_with fail
  go_ret
  exact ⟨rfl, hb1.trans (hb2.mono hb1.size)⟩
end Go.Proofs.YtladgbfmfhmpiaaDoor
