/- The rows' condition where the library's tables of runes are listed, too: it gives the shorter one, and the door's own heap meets it. -/
import Derived.Test.YtfpgalckmfdcmaaDoorIsaLaid
import Derived.LaidSub
import Derived.Lay
import Derived.MakeChecks
namespace Go.Proofs.YtfpgalckmfdcmaaDoor
open Go Go.ChangeShapes Go.WideShapes Go.ChangeAt Go.RowKit
def laid6 : List (String × DataW Unit) := [("math/bits.deBruijn32tab", Rows.laid_math_bits_deBruijn32tab), ("math/bits.deBruijn64tab", Rows.laid_math_bits_deBruijn64tab), ("internal/strconv.uint64pow10", Rows.laid_internal_strconv_uint64pow10), ("unicode/utf8.acceptRanges", Rows.laid_unicode_utf8_acceptRanges), ("kindling/isa.operations", Rows.laid_kindling_isa_operations), ("unicode/utf8.first", Rows.laid_unicode_utf8_first)]
theorem met6 (os : Os) (args : Array Value) : laidMetH Tryd.prog laid6 ((World.laidAll Tryd.prog os laid6).forCall (fun _ _ => 0) ⟨#[], args, []⟩).memory := by
  rw [MakeChecks.laidMetH_plain _ _ _ (by kernel_rfl)]
  exact laidMet_laidAll _ (by kernel_rfl) (by kernel_rfl)
theorem shaped6 (os : Os) : (World.laidAll Tryd.prog os laid6).Shaped Tryd.prog := World.shaped_of_ZipB (by kernel_rfl) (by kernel_rfl)
theorem laid3_of_6 {W : World} (h : laidMetH Tryd.prog laid6 W) : laidMetH Tryd.prog laid3 W := by
  have h1 := h.filter (fun x => x.1 != "unicode/utf8.acceptRanges" && x.1 != "unicode/utf8.first")
  have e : laid6.filter (fun x => x.1 != "unicode/utf8.acceptRanges" && x.1 != "unicode/utf8.first") = laid3 := by rfl
  rw [e] at h1
  exact h1
end Go.Proofs.YtfpgalckmfdcmaaDoor
