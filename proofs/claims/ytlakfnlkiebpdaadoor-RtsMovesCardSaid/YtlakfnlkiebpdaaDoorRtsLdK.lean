/- What the rows' condition on the library's listed tables gives num's text. Conditions: none. -/
import Derived.Test.YtlakfnlkiebpdaaDoorLaid
import Derived.Test.YtlakfnlkiebpdaaDoorRtsNt
namespace Go.Proofs.YtlakfnlkiebpdaaDoor
open Go Go.ChangeShapes Go.WideShapes Go.ChangeAt Go.RowKit
theorem tab_of_laid3 {W : World} (h : laidMetH Tryd.prog laid3 W) : TabT W := by
  rw [MakeChecks.laidMetH_plain _ _ _ (by kernel_rfl)] at h
  have h2 := laidMet.tail (laidMet.tail h)
  have e : (Rows.laid_internal_strconv_uint64pow10 : DataW Unit) = Lib.tabData .u64 Lib.pow10Tab := by rfl
  rw [e] at h2
  exact Lib.tabIs_of_head (g := 0) (t := 175) (e := 33) (n := 20) (by kernel_rfl) (by kernel_rfl) Tryd.underlying175 Tryd.underlying33 (by kernel_rfl) (by kernel_rfl) h2
end Go.Proofs.YtlakfnlkiebpdaaDoor
