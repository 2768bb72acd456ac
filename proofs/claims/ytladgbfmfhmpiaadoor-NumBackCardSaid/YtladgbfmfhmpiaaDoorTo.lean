/- The contracts of package num with the result as the caller names it. Conditions: the named result is the contract's own. -/
import Derived.Test.YtladgbfmfhmpiaaDoorKnown
namespace Go.Proofs.YtladgbfmfhmpiaaDoor
open Go Go.RowKit
theorem add_to (a b r : Int) (h : W (a + b) = r) (w : World) : Calls Tryd.prog 17 #[.int .i64 a, .int .i64 b] w fun e w' => e = .returned (.int .i64 r) ∧ w = w' := by
  subst h; exact add_any a b w
theorem sub_to (a b r : Int) (h : W (a - b) = r) (w : World) : Calls Tryd.prog 19 #[.int .i64 a, .int .i64 b] w fun e w' => e = .returned (.int .i64 r) ∧ w = w' := by
  subst h; exact sub_any a b w
theorem mul_to (a b r : Int) (h : W (a * b) = r) (w : World) : Calls Tryd.prog 21 #[.int .i64 a, .int .i64 b] w fun e w' => e = .returned (.int .i64 r) ∧ w = w' := by
  subst h; exact mul_any a b w
theorem wrap_to (a r : Int) (h : W a = r) (w : World) : Calls Tryd.prog 14 #[.int .i64 a] w fun e w' => e = .returned (.int .i64 r) ∧ w = w' := by
  subst h; exact wrap_any a w
theorem int_to (a r : Int) (h : intW a = r) (w : World) : Calls Tryd.prog 30 #[.int .i64 a] w fun e w' => e = .returned (.int .u64 r) ∧ w = w' := by
  subst h; exact int_any a w
theorem fit_to (a : Int) (r : Bool) (h : fitB a = r) (w : World) : Calls Tryd.prog 16 #[.int .i64 a] w fun e w' => e = .returned (.bool r) ∧ w = w' := by
  subst h; exact fit_any a w
theorem neg_to (a r : Int) (h : W (-a) = r) (w : World) : Calls Tryd.prog 23 #[.int .i64 a] w fun e w' => e = .returned (.int .i64 r) ∧ w = w' := by
  subst h; exact neg_any a w
theorem toint_to (n r : Int) (h0 : 0 ≤ n) (h1 : n ≤ 18446744073709551615) (h : toI n = r) (w : World) : Calls Tryd.prog 42 #[.int .u64 n] w fun e w' => e = .returned (.int .i64 r) ∧ w = w' := by
  subst h; exact toint_any n w h0 h1
theorem toptr_to (n r : Int) (h0 : 0 ≤ n) (h1 : n ≤ 18446744073709551615) (h : toP n = r) (w : World) : Calls Tryd.prog 44 #[.int .u64 n] w fun e w' => e = .returned (.int .i64 r) ∧ w = w' := by
  subst h; exact toptr_any n w h0 h1
theorem isint_to (n : Int) (r : Bool) (h0 : 0 ≤ n) (h1 : n ≤ 18446744073709551615) (h : isIntB n = r) (w : World) : Calls Tryd.prog 38 #[.int .u64 n] w fun e w' => e = .returned (.bool r) ∧ w = w' := by
  subst h; exact isint_any n w h0 h1
theorem isptr_to (n : Int) (r : Bool) (h0 : 0 ≤ n) (h1 : n ≤ 18446744073709551615) (h : isPtrB n = r) (w : World) : Calls Tryd.prog 40 #[.int .u64 n] w fun e w' => e = .returned (.bool r) ∧ w = w' := by
  subst h; exact isptr_any n w h0 h1
theorem ptr_to (a r : Int) (h : ptrW a = r) (w : World) : Calls Tryd.prog 36 #[.int .i64 a] w fun e w' => e = .returned (.int .u64 r) ∧ w = w' := by
  subst h; exact ptr_any a w
end Go.Proofs.YtladgbfmfhmpiaaDoor
