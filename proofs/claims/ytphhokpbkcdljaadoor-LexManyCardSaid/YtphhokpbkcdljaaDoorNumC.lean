/- Contracts of the words of integers and of addresses in package num and in the reference: each only computes. Conditions: the arguments are of their Go kinds. -/
import Derived.Test.YtphhokpbkcdljaaDoorNum
import Derived.Laws.Bits64b
import Derived.Laws.BitsAllLaws
import Derived.PlainAid
import Derived.WalkSmall
namespace Go.Proofs.YtphhokpbkcdljaaDoor
open Go Go.RowKit
/-- the word of an integer -/
def intW (n : Int) : Int := (2 * n + 1) % 18446744073709551616
def ptrW (a : Int) : Int := if 1 ≤ a ∧ a ≤ 1099511627776 then 2 * a else 1
def isIntB (w : Int) : Bool := decide (w % 2 = 1)
def isPtrB (w : Int) : Bool := decide (w % 2 = 0 ∧ 2 ≤ w ∧ w ≤ 2199023255552)
def toI (w : Int) : Int := if w % 2 = 1 then W (w / 2) else 0
def toP (w : Int) : Int := if w % 2 = 0 ∧ 2 ≤ w ∧ w ≤ 2199023255552 then w / 2 else 0
theorem u64_or1 (x : Int) (h0 : 0 ≤ x) (h1 : x < 18446744073709551616) (h2 : x % 2 = 0) : bits .or .u64 x 1 = x + 1 := by
  have h := u64_or x 1 h0 h1 (by decide) (by decide)
  have e := nat_join 1 x.toNat 1 (by omega) (by decide)
  have e2 : (1 : Int).toNat = 1 := by decide
  rw [e2, e] at h
  rw [h]; omega
theorem u64w (x : Int) : IntKind.u64.wrap x = x % 18446744073709551616 := by rw [IntKind.wrap_u64]
theorem int_eq (n : Int) : bits BinOp.or IntKind.u64 (IntKind.u64.wrap (IntKind.u64.wrap n * 2)) 1 = intW n := by
  rw [u64w, u64w, u64_or1 _ (by omega) (by omega) (by omega)]; unfold intW; omega
theorem refint_eq (n : Int) : IntKind.u64.wrap (IntKind.u64.wrap (2 * IntKind.u64.wrap (W n)) + 1) = intW n := by
  rw [u64w, u64w, u64w]; unfold intW W; omega
theorem and1 (n : Int) (h0 : 0 ≤ n) (h1 : n ≤ 18446744073709551615) : bits BinOp.and IntKind.u64 n 1 = n % 2 := and_one_u64 n h0 h1
theorem isInt_eq (n : Int) : (n % 2 == 1) = isIntB n := by unfold isIntB; rw [Bool.eq_iff_iff]; simp
theorem ptrW_in {n : Int} (h0 : 1 ≤ n) (h1 : n ≤ 1099511627776) : ptrW n = 2 * n := by unfold ptrW; rw [if_pos ⟨h0, h1⟩]
theorem ptrW_out {n : Int} (h : ¬ (1 ≤ n ∧ n ≤ 1099511627776)) : ptrW n = 1 := by unfold ptrW; rw [if_neg h]
theorem intW_0 : intW 0 = 1 := by decide
theorem isPtr_no {w : Int} (h : w % 2 = 1) : isPtrB w = false := by unfold isPtrB; rw [decide_eq_false_iff_not]; omega
theorem isPtr_lo {w : Int} (h : w < 2) : isPtrB w = false := by unfold isPtrB; rw [decide_eq_false_iff_not]; omega
theorem isPtr_hi {w : Int} (h : 2199023255552 < w) : isPtrB w = false := by unfold isPtrB; rw [decide_eq_false_iff_not]; omega
theorem isPtr_yes {w : Int} (h : w % 2 = 0) (h0 : 2 ≤ w) (h1 : w ≤ 2199023255552) : isPtrB w = true := by unfold isPtrB; rw [decide_eq_true_eq]; omega
theorem isIntB_of {n : Int} : isIntB n = true ↔ n % 2 = 1 := by unfold isIntB; simp
theorem isIntB_not {n : Int} : isIntB n = false ↔ n % 2 = 0 := by unfold isIntB; rw [decide_eq_false_iff_not]; omega
theorem isPtrB_of {n : Int} : isPtrB n = true ↔ n % 2 = 0 ∧ 2 ≤ n ∧ n ≤ 2199023255552 := by unfold isPtrB; simp
theorem toI_no {n : Int} (h : isIntB n = false) : toI n = 0 := by have := isIntB_not.1 h; unfold toI; rw [if_neg (by omega)]
theorem toI_yes {n : Int} (h : isIntB n = true) : toI n = W (n / 2) := by have := isIntB_of.1 h; unfold toI; rw [if_pos this]
theorem toP_no {n : Int} (h : isPtrB n = false) : toP n = 0 := by unfold toP; rw [if_neg (fun x => by rw [isPtrB_of.2 x] at h; cases h)]
theorem toP_yes {n : Int} (h : isPtrB n = true) : toP n = n / 2 := by unfold toP; rw [if_pos (isPtrB_of.1 h)]
theorem toI_num {n : Int} (h : n % 2 = 1) : wrap64 n / 2 = W (n / 2) := by unfold wrap64 W; omega
end Go.Proofs.YtphhokpbkcdljaaDoor
