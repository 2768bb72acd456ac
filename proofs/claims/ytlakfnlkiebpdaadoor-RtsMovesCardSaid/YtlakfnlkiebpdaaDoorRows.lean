/-
  NARROWER THAN 'FOR EVERY INPUT', by the rows' own cells (each row's printed sentence says how): RtsTexts: laid · RtsTextBack: laid · RtsGets: laid · RtsSame: laid · RtsTurns: laid · RtsMoves: loops, laid · RtsShort: loops, laid · RtsQuotes: laid · RtsMakers: laid · RtsNil: laid.
  DERIVED. THE GIVEN ROWS OF THIS SEAT. 10 by the template 'for every input the law returns true; each argument reads behind the call as it read before'; 0 by the template 'total and deterministic' (their statements: YtlakfnlkiebpdaaDoorTotals.lean).
  GIVEN WITH THE SEED: the statements are not yours to turn. If you find one false, say at which input.
  Laid BY PROGRAM, IN A SANDBOX (cutbox-rows.mjs): the forced cells as the released guide's own fill.sh prints them over the translation f5f2d8c154faf1c4… (all of the seat's roots in one cut). By AI agents, Wed Nov 11 2026. No macro, syntax, notation, axiom, sorry.
-/
import Derived.Test.YtlakfnlkiebpdaaDoorChecked
import GoSem.Claim
import GoSem.ClaimJoined
import GoSem.ClaimMapViews
import Derived.JoinedTies
import Derived.KernelRfl
namespace Go.Proofs.YtlakfnlkiebpdaaDoor
/- THE CELL 'sum', in the pinned program and in every row, IS THE sha256 OF THE DUMP (.gsa) THAT YtlakfnlkiebpdaaDoorProg.lean LOADS. Nothing in Lean hashes anything: it is a label: what it is worth is what the hold of that sum in a sandbox is worth. -/
noncomputable def Tryd.pinned : Pinned := { name := "ytlakfnlkiebpdaadoor", sum := "f5f2d8c154faf1c464264806686cd14f8aed410663f2c982ea582d492d4aff0c", checked := Tryd.checked }
namespace Rows
def none {H : Type} : Left H := { results := [], args := [] }

/- WHAT THE LISTED PACKAGE-LEVEL VARIABLES READ AS WHEN THE CALL BEGINS. Each datum BY PROGRAM (the guide's laid-datum.mjs) off the statement by which the dump's own 'gosem.cut.vars' lays the variable. In a bare row this is a premise. The card (YtlakfnlkiebpdaaDoorCards.lean) ties it to the program's text. -/
def laid_math_bits_deBruijn32tab {H : Type} : DataW H := .agg [.lit (.int .u8 0), .lit (.int .u8 1), .lit (.int .u8 28), .lit (.int .u8 2), .lit (.int .u8 29), .lit (.int .u8 14), .lit (.int .u8 24), .lit (.int .u8 3), .lit (.int .u8 30), .lit (.int .u8 22), .lit (.int .u8 20), .lit (.int .u8 15), .lit (.int .u8 25), .lit (.int .u8 17), .lit (.int .u8 4), .lit (.int .u8 8), .lit (.int .u8 31), .lit (.int .u8 27), .lit (.int .u8 13), .lit (.int .u8 23), .lit (.int .u8 21), .lit (.int .u8 19), .lit (.int .u8 16), .lit (.int .u8 7), .lit (.int .u8 26), .lit (.int .u8 12), .lit (.int .u8 18), .lit (.int .u8 6), .lit (.int .u8 11), .lit (.int .u8 5), .lit (.int .u8 10), .lit (.int .u8 9)]
def laid_math_bits_deBruijn64tab {H : Type} : DataW H := .agg [.lit (.int .u8 0), .lit (.int .u8 1), .lit (.int .u8 56), .lit (.int .u8 2), .lit (.int .u8 57), .lit (.int .u8 49), .lit (.int .u8 28), .lit (.int .u8 3), .lit (.int .u8 61), .lit (.int .u8 58), .lit (.int .u8 42), .lit (.int .u8 50), .lit (.int .u8 38), .lit (.int .u8 29), .lit (.int .u8 17), .lit (.int .u8 4), .lit (.int .u8 62), .lit (.int .u8 47), .lit (.int .u8 59), .lit (.int .u8 36), .lit (.int .u8 45), .lit (.int .u8 43), .lit (.int .u8 51), .lit (.int .u8 22), .lit (.int .u8 53), .lit (.int .u8 39), .lit (.int .u8 33), .lit (.int .u8 30), .lit (.int .u8 24), .lit (.int .u8 18), .lit (.int .u8 12), .lit (.int .u8 5), .lit (.int .u8 63), .lit (.int .u8 55), .lit (.int .u8 48), .lit (.int .u8 27), .lit (.int .u8 60), .lit (.int .u8 41), .lit (.int .u8 37), .lit (.int .u8 16), .lit (.int .u8 46), .lit (.int .u8 35), .lit (.int .u8 44), .lit (.int .u8 21), .lit (.int .u8 52), .lit (.int .u8 32), .lit (.int .u8 23), .lit (.int .u8 11), .lit (.int .u8 54), .lit (.int .u8 26), .lit (.int .u8 40), .lit (.int .u8 15), .lit (.int .u8 34), .lit (.int .u8 20), .lit (.int .u8 31), .lit (.int .u8 10), .lit (.int .u8 25), .lit (.int .u8 14), .lit (.int .u8 19), .lit (.int .u8 9), .lit (.int .u8 13), .lit (.int .u8 8), .lit (.int .u8 7), .lit (.int .u8 6)]
def laid_internal_strconv_uint64pow10 {H : Type} : DataW H := .agg [.lit (.int .u64 1), .lit (.int .u64 10), .lit (.int .u64 100), .lit (.int .u64 1000), .lit (.int .u64 10000), .lit (.int .u64 100000), .lit (.int .u64 1000000), .lit (.int .u64 10000000), .lit (.int .u64 100000000), .lit (.int .u64 1000000000), .lit (.int .u64 10000000000), .lit (.int .u64 100000000000), .lit (.int .u64 1000000000000), .lit (.int .u64 10000000000000), .lit (.int .u64 100000000000000), .lit (.int .u64 1000000000000000), .lit (.int .u64 10000000000000000), .lit (.int .u64 100000000000000000), .lit (.int .u64 1000000000000000000), .lit (.int .u64 10000000000000000000)]

/-- 'kindlinglaw05.RtsTexts': WHATEVER THE INPUT: true; the input reads as it did. -/
def rtsTextsSpec : ChangeSpec := { name := "rtsTexts", fn := fun _ => fun
  | [d1, d2] => { results := [.lit (.bool true)], args := [d1, d2] }
  | _ => none }
def rtsTextsRow : OpenClaim := { program := "ytlakfnlkiebpdaadoor", sum := "f5f2d8c154faf1c464264806686cd14f8aed410663f2c982ea582d492d4aff0c", func := "kindling/kindlinglaw05.RtsTexts", spec := "rtsTexts", unfollowed := true, recurses := true, named := ["internal/strconv.uint64pow10", "math/bits.deBruijn32tab", "math/bits.deBruijn64tab"], apart := false, laid := [("math/bits.deBruijn32tab", laid_math_bits_deBruijn32tab), ("math/bits.deBruijn64tab", laid_math_bits_deBruijn64tab), ("internal/strconv.uint64pow10", laid_internal_strconv_uint64pow10)] }
def RtsTextsSaid : Prop := rtsTextsRow.holds Tryd.pinned (OpenSpec.ofChange rtsTextsSpec)

/-- ITS FALSE NEIGHBOUR: 'it returns false'. Refute it at one input. -/
def rtsTextsWrong : ChangeSpec := { name := "rtsTexts", fn := fun _ => fun
  | [d1, d2] => { results := [.lit (.bool false)], args := [d1, d2] }
  | _ => none }
def RtsTextsWrongFalsely : Prop := rtsTextsRow.holds Tryd.pinned (OpenSpec.ofChange rtsTextsWrong)

/-- 'kindlinglaw05.RtsTextBack': WHATEVER THE INPUT: true; the input reads as it did. -/
def rtsTextBackSpec : ChangeSpec := { name := "rtsTextBack", fn := fun _ => fun
  | [d] => { results := [.lit (.bool true)], args := [d] }
  | _ => none }
def rtsTextBackRow : OpenClaim := { program := "ytlakfnlkiebpdaadoor", sum := "f5f2d8c154faf1c464264806686cd14f8aed410663f2c982ea582d492d4aff0c", func := "kindling/kindlinglaw05.RtsTextBack", spec := "rtsTextBack", unfollowed := true, recurses := true, named := ["internal/strconv.uint64pow10", "math/bits.deBruijn32tab", "math/bits.deBruijn64tab"], apart := false, laid := [("math/bits.deBruijn32tab", laid_math_bits_deBruijn32tab), ("math/bits.deBruijn64tab", laid_math_bits_deBruijn64tab), ("internal/strconv.uint64pow10", laid_internal_strconv_uint64pow10)] }
def RtsTextBackSaid : Prop := rtsTextBackRow.holds Tryd.pinned (OpenSpec.ofChange rtsTextBackSpec)

/-- ITS FALSE NEIGHBOUR: 'it returns false'. Refute it at one input. -/
def rtsTextBackWrong : ChangeSpec := { name := "rtsTextBack", fn := fun _ => fun
  | [d] => { results := [.lit (.bool false)], args := [d] }
  | _ => none }
def RtsTextBackWrongFalsely : Prop := rtsTextBackRow.holds Tryd.pinned (OpenSpec.ofChange rtsTextBackWrong)

/-- 'kindlinglaw05.RtsGets': WHATEVER THE INPUT: true; the input reads as it did. -/
def rtsGetsSpec : ChangeSpec := { name := "rtsGets", fn := fun _ => fun
  | [d1, d2, d3] => { results := [.lit (.bool true)], args := [d1, d2, d3] }
  | _ => none }
def rtsGetsRow : OpenClaim := { program := "ytlakfnlkiebpdaadoor", sum := "f5f2d8c154faf1c464264806686cd14f8aed410663f2c982ea582d492d4aff0c", func := "kindling/kindlinglaw05.RtsGets", spec := "rtsGets", unfollowed := true, recurses := true, named := ["internal/strconv.uint64pow10", "math/bits.deBruijn32tab", "math/bits.deBruijn64tab"], apart := false, laid := [("math/bits.deBruijn32tab", laid_math_bits_deBruijn32tab), ("math/bits.deBruijn64tab", laid_math_bits_deBruijn64tab), ("internal/strconv.uint64pow10", laid_internal_strconv_uint64pow10)] }
def RtsGetsSaid : Prop := rtsGetsRow.holds Tryd.pinned (OpenSpec.ofChange rtsGetsSpec)

/-- ITS FALSE NEIGHBOUR: 'it returns false'. Refute it at one input. -/
def rtsGetsWrong : ChangeSpec := { name := "rtsGets", fn := fun _ => fun
  | [d1, d2, d3] => { results := [.lit (.bool false)], args := [d1, d2, d3] }
  | _ => none }
def RtsGetsWrongFalsely : Prop := rtsGetsRow.holds Tryd.pinned (OpenSpec.ofChange rtsGetsWrong)

/-- 'kindlinglaw05.RtsSame': WHATEVER THE INPUT: true; the input reads as it did. -/
def rtsSameSpec : ChangeSpec := { name := "rtsSame", fn := fun _ => fun
  | [d1, d2, d3, d4] => { results := [.lit (.bool true)], args := [d1, d2, d3, d4] }
  | _ => none }
def rtsSameRow : OpenClaim := { program := "ytlakfnlkiebpdaadoor", sum := "f5f2d8c154faf1c464264806686cd14f8aed410663f2c982ea582d492d4aff0c", func := "kindling/kindlinglaw05.RtsSame", spec := "rtsSame", unfollowed := true, recurses := true, named := ["internal/strconv.uint64pow10", "math/bits.deBruijn32tab", "math/bits.deBruijn64tab"], apart := false, laid := [("math/bits.deBruijn32tab", laid_math_bits_deBruijn32tab), ("math/bits.deBruijn64tab", laid_math_bits_deBruijn64tab), ("internal/strconv.uint64pow10", laid_internal_strconv_uint64pow10)] }
def RtsSameSaid : Prop := rtsSameRow.holds Tryd.pinned (OpenSpec.ofChange rtsSameSpec)

/-- ITS FALSE NEIGHBOUR: 'it returns false'. Refute it at one input. -/
def rtsSameWrong : ChangeSpec := { name := "rtsSame", fn := fun _ => fun
  | [d1, d2, d3, d4] => { results := [.lit (.bool false)], args := [d1, d2, d3, d4] }
  | _ => none }
def RtsSameWrongFalsely : Prop := rtsSameRow.holds Tryd.pinned (OpenSpec.ofChange rtsSameWrong)

/-- 'kindlinglaw05.RtsTurns': WHATEVER THE INPUT: true; the input reads as it did. -/
def rtsTurnsSpec : ChangeSpec := { name := "rtsTurns", fn := fun _ => fun
  | [d1, d2, d3, d4] => { results := [.lit (.bool true)], args := [d1, d2, d3, d4] }
  | _ => none }
def rtsTurnsRow : OpenClaim := { program := "ytlakfnlkiebpdaadoor", sum := "f5f2d8c154faf1c464264806686cd14f8aed410663f2c982ea582d492d4aff0c", func := "kindling/kindlinglaw05.RtsTurns", spec := "rtsTurns", unfollowed := true, recurses := true, named := ["internal/strconv.uint64pow10", "math/bits.deBruijn32tab", "math/bits.deBruijn64tab"], apart := false, laid := [("math/bits.deBruijn32tab", laid_math_bits_deBruijn32tab), ("math/bits.deBruijn64tab", laid_math_bits_deBruijn64tab), ("internal/strconv.uint64pow10", laid_internal_strconv_uint64pow10)] }
def RtsTurnsSaid : Prop := rtsTurnsRow.holds Tryd.pinned (OpenSpec.ofChange rtsTurnsSpec)

/-- ITS FALSE NEIGHBOUR: 'it returns false'. Refute it at one input. -/
def rtsTurnsWrong : ChangeSpec := { name := "rtsTurns", fn := fun _ => fun
  | [d1, d2, d3, d4] => { results := [.lit (.bool false)], args := [d1, d2, d3, d4] }
  | _ => none }
def RtsTurnsWrongFalsely : Prop := rtsTurnsRow.holds Tryd.pinned (OpenSpec.ofChange rtsTurnsWrong)

/-- 'kindlinglaw05.RtsMoves': WHATEVER THE INPUT: true; the input reads as it did. -/
def rtsMovesSpec : ChangeSpec := { name := "rtsMoves", fn := fun _ => fun
  | [d1, d2, d3, d4, d5] => { results := [.lit (.bool true)], args := [d1, d2, d3, d4, d5] }
  | _ => none }
def rtsMovesRow : OpenClaim := { program := "ytlakfnlkiebpdaadoor", sum := "f5f2d8c154faf1c464264806686cd14f8aed410663f2c982ea582d492d4aff0c", func := "kindling/kindlinglaw05.RtsMoves", spec := "rtsMoves", unfollowed := true, recurses := true, named := ["internal/strconv.uint64pow10", "math/bits.deBruijn32tab", "math/bits.deBruijn64tab"], loops := true, apart := false, laid := [("math/bits.deBruijn32tab", laid_math_bits_deBruijn32tab), ("math/bits.deBruijn64tab", laid_math_bits_deBruijn64tab), ("internal/strconv.uint64pow10", laid_internal_strconv_uint64pow10)] }
def RtsMovesSaid : Prop := rtsMovesRow.holds Tryd.pinned (OpenSpec.ofChange rtsMovesSpec)

/-- ITS FALSE NEIGHBOUR: 'it returns false'. Refute it at one input. -/
def rtsMovesWrong : ChangeSpec := { name := "rtsMoves", fn := fun _ => fun
  | [d1, d2, d3, d4, d5] => { results := [.lit (.bool false)], args := [d1, d2, d3, d4, d5] }
  | _ => none }
def RtsMovesWrongFalsely : Prop := rtsMovesRow.holds Tryd.pinned (OpenSpec.ofChange rtsMovesWrong)

/-- 'kindlinglaw05.RtsShort': WHATEVER THE INPUT: true; the input reads as it did. -/
def rtsShortSpec : ChangeSpec := { name := "rtsShort", fn := fun _ => fun
  | [d1, d2, d3, d4] => { results := [.lit (.bool true)], args := [d1, d2, d3, d4] }
  | _ => none }
def rtsShortRow : OpenClaim := { program := "ytlakfnlkiebpdaadoor", sum := "f5f2d8c154faf1c464264806686cd14f8aed410663f2c982ea582d492d4aff0c", func := "kindling/kindlinglaw05.RtsShort", spec := "rtsShort", unfollowed := true, recurses := true, named := ["internal/strconv.uint64pow10", "math/bits.deBruijn32tab", "math/bits.deBruijn64tab"], loops := true, apart := false, laid := [("math/bits.deBruijn32tab", laid_math_bits_deBruijn32tab), ("math/bits.deBruijn64tab", laid_math_bits_deBruijn64tab), ("internal/strconv.uint64pow10", laid_internal_strconv_uint64pow10)] }
def RtsShortSaid : Prop := rtsShortRow.holds Tryd.pinned (OpenSpec.ofChange rtsShortSpec)

/-- ITS FALSE NEIGHBOUR: 'it returns false'. Refute it at one input. -/
def rtsShortWrong : ChangeSpec := { name := "rtsShort", fn := fun _ => fun
  | [d1, d2, d3, d4] => { results := [.lit (.bool false)], args := [d1, d2, d3, d4] }
  | _ => none }
def RtsShortWrongFalsely : Prop := rtsShortRow.holds Tryd.pinned (OpenSpec.ofChange rtsShortWrong)

/-- 'kindlinglaw05.RtsQuotes': WHATEVER THE INPUT: true; the input reads as it did. -/
def rtsQuotesSpec : ChangeSpec := { name := "rtsQuotes", fn := fun _ => fun
  | [d1, d2] => { results := [.lit (.bool true)], args := [d1, d2] }
  | _ => none }
def rtsQuotesRow : OpenClaim := { program := "ytlakfnlkiebpdaadoor", sum := "f5f2d8c154faf1c464264806686cd14f8aed410663f2c982ea582d492d4aff0c", func := "kindling/kindlinglaw05.RtsQuotes", spec := "rtsQuotes", unfollowed := true, recurses := true, named := ["internal/strconv.uint64pow10", "math/bits.deBruijn32tab", "math/bits.deBruijn64tab"], apart := false, laid := [("math/bits.deBruijn32tab", laid_math_bits_deBruijn32tab), ("math/bits.deBruijn64tab", laid_math_bits_deBruijn64tab), ("internal/strconv.uint64pow10", laid_internal_strconv_uint64pow10)] }
def RtsQuotesSaid : Prop := rtsQuotesRow.holds Tryd.pinned (OpenSpec.ofChange rtsQuotesSpec)

/-- ITS FALSE NEIGHBOUR: 'it returns false'. Refute it at one input. -/
def rtsQuotesWrong : ChangeSpec := { name := "rtsQuotes", fn := fun _ => fun
  | [d1, d2] => { results := [.lit (.bool false)], args := [d1, d2] }
  | _ => none }
def RtsQuotesWrongFalsely : Prop := rtsQuotesRow.holds Tryd.pinned (OpenSpec.ofChange rtsQuotesWrong)

/-- 'kindlinglaw05.RtsMakers': WHATEVER THE INPUT: true; the input reads as it did. -/
def rtsMakersSpec : ChangeSpec := { name := "rtsMakers", fn := fun _ => fun
  | [] => { results := [.lit (.bool true)], args := [] }
  | _ => none }
def rtsMakersRow : OpenClaim := { program := "ytlakfnlkiebpdaadoor", sum := "f5f2d8c154faf1c464264806686cd14f8aed410663f2c982ea582d492d4aff0c", func := "kindling/kindlinglaw05.RtsMakers", spec := "rtsMakers", unfollowed := true, recurses := true, named := ["internal/strconv.uint64pow10", "math/bits.deBruijn32tab", "math/bits.deBruijn64tab"], apart := false, laid := [("math/bits.deBruijn32tab", laid_math_bits_deBruijn32tab), ("math/bits.deBruijn64tab", laid_math_bits_deBruijn64tab), ("internal/strconv.uint64pow10", laid_internal_strconv_uint64pow10)] }
def RtsMakersSaid : Prop := rtsMakersRow.holds Tryd.pinned (OpenSpec.ofChange rtsMakersSpec)

/-- ITS FALSE NEIGHBOUR: 'it returns false'. Refute it at one input. -/
def rtsMakersWrong : ChangeSpec := { name := "rtsMakers", fn := fun _ => fun
  | [] => { results := [.lit (.bool false)], args := [] }
  | _ => none }
def RtsMakersWrongFalsely : Prop := rtsMakersRow.holds Tryd.pinned (OpenSpec.ofChange rtsMakersWrong)

/-- 'kindlinglaw05.RtsNil': WHATEVER THE INPUT: true; the input reads as it did. -/
def rtsNilSpec : ChangeSpec := { name := "rtsNil", fn := fun _ => fun
  | [] => { results := [.lit (.bool true)], args := [] }
  | _ => none }
def rtsNilRow : OpenClaim := { program := "ytlakfnlkiebpdaadoor", sum := "f5f2d8c154faf1c464264806686cd14f8aed410663f2c982ea582d492d4aff0c", func := "kindling/kindlinglaw05.RtsNil", spec := "rtsNil", unfollowed := true, recurses := true, named := ["internal/strconv.uint64pow10", "math/bits.deBruijn32tab", "math/bits.deBruijn64tab"], apart := false, laid := [("math/bits.deBruijn32tab", laid_math_bits_deBruijn32tab), ("math/bits.deBruijn64tab", laid_math_bits_deBruijn64tab), ("internal/strconv.uint64pow10", laid_internal_strconv_uint64pow10)] }
def RtsNilSaid : Prop := rtsNilRow.holds Tryd.pinned (OpenSpec.ofChange rtsNilSpec)

/-- ITS FALSE NEIGHBOUR: 'it returns false'. Refute it at one input. -/
def rtsNilWrong : ChangeSpec := { name := "rtsNil", fn := fun _ => fun
  | [] => { results := [.lit (.bool false)], args := [] }
  | _ => none }
def RtsNilWrongFalsely : Prop := rtsNilRow.holds Tryd.pinned (OpenSpec.ofChange rtsNilWrong)

/- THE SECOND FORM. 'bulk': how many values and letters a reading holds, each counted each time it is reached (what is shared counts as often as it is met; a slice's spare places count too). A statement '..UptoSaid' is the law's where the arguments, and the package variables that the reading takes, are together of bulk at most 1048576: NARROWER than '..Said'. Prove '..Said' where nothing that the law and all that it calls make is longer than what came in: it says more and counts as full. Else prove '..UptoSaid'. A law counts once. -/
mutual
def uptoBulk {H : Type} : DataW H → Nat
  | .lit (.string bytes) => bytes.length + 1
  | .lit _ => 1
  | .nil => 1
  | .ptr d => uptoBulk d + 1
  | .slice elems spare => uptoBulkAll elems + uptoBulkAll spare + 1
  | .agg parts => uptoBulkAll parts + 1
  | .iface _ d => uptoBulk d + 1
  | .map entries => uptoBulkEntries entries + 1
  | .held _ => 1
def uptoBulkAll {H : Type} : List (DataW H) → Nat
  | [] => 0
  | d :: r => uptoBulk d + uptoBulkAll r
def uptoBulkEntries {H : Type} : List (Lit × DataW H) → Nat
  | [] => 0
  | x :: r => uptoBulkEntry x + uptoBulkEntries r
def uptoBulkEntry {H : Type} : Lit × DataW H → Nat
  | (.string bytes, d) => bytes.length + uptoBulk d + 1
  | (_, d) => uptoBulk d + 1
 end
def uptoSmall : (H : Type) → List (DataW H) → Bool := fun _ ds => decide (uptoBulkAll ds ≤ 1048576)
def OpenSpec.upto (s : _root_.Go.ChangeSpec) : _root_.Go.OpenSpec := { _root_.Go.OpenSpec.ofChange s with cond := some uptoSmall }

/-- 'kindlinglaw05.RtsTexts', WHERE WHAT IT READS IS OF BULK AT MOST 1048576: true; the input reads as it did. -/
def rtsTextsUptoRow : OpenClaim := { program := "ytlakfnlkiebpdaadoor", sum := "f5f2d8c154faf1c464264806686cd14f8aed410663f2c982ea582d492d4aff0c", func := "kindling/kindlinglaw05.RtsTexts", spec := "rtsTexts", unfollowed := true, recurses := true, named := ["internal/strconv.uint64pow10", "math/bits.deBruijn32tab", "math/bits.deBruijn64tab"], apart := false, laid := [("math/bits.deBruijn32tab", laid_math_bits_deBruijn32tab), ("math/bits.deBruijn64tab", laid_math_bits_deBruijn64tab), ("internal/strconv.uint64pow10", laid_internal_strconv_uint64pow10)], narrowed := true }
def RtsTextsUptoSaid : Prop := rtsTextsUptoRow.holds Tryd.pinned (OpenSpec.upto rtsTextsSpec)

/-- 'kindlinglaw05.RtsTextBack', WHERE WHAT IT READS IS OF BULK AT MOST 1048576: true; the input reads as it did. -/
def rtsTextBackUptoRow : OpenClaim := { program := "ytlakfnlkiebpdaadoor", sum := "f5f2d8c154faf1c464264806686cd14f8aed410663f2c982ea582d492d4aff0c", func := "kindling/kindlinglaw05.RtsTextBack", spec := "rtsTextBack", unfollowed := true, recurses := true, named := ["internal/strconv.uint64pow10", "math/bits.deBruijn32tab", "math/bits.deBruijn64tab"], apart := false, laid := [("math/bits.deBruijn32tab", laid_math_bits_deBruijn32tab), ("math/bits.deBruijn64tab", laid_math_bits_deBruijn64tab), ("internal/strconv.uint64pow10", laid_internal_strconv_uint64pow10)], narrowed := true }
def RtsTextBackUptoSaid : Prop := rtsTextBackUptoRow.holds Tryd.pinned (OpenSpec.upto rtsTextBackSpec)

/-- 'kindlinglaw05.RtsGets', WHERE WHAT IT READS IS OF BULK AT MOST 1048576: true; the input reads as it did. -/
def rtsGetsUptoRow : OpenClaim := { program := "ytlakfnlkiebpdaadoor", sum := "f5f2d8c154faf1c464264806686cd14f8aed410663f2c982ea582d492d4aff0c", func := "kindling/kindlinglaw05.RtsGets", spec := "rtsGets", unfollowed := true, recurses := true, named := ["internal/strconv.uint64pow10", "math/bits.deBruijn32tab", "math/bits.deBruijn64tab"], apart := false, laid := [("math/bits.deBruijn32tab", laid_math_bits_deBruijn32tab), ("math/bits.deBruijn64tab", laid_math_bits_deBruijn64tab), ("internal/strconv.uint64pow10", laid_internal_strconv_uint64pow10)], narrowed := true }
def RtsGetsUptoSaid : Prop := rtsGetsUptoRow.holds Tryd.pinned (OpenSpec.upto rtsGetsSpec)

/-- 'kindlinglaw05.RtsSame', WHERE WHAT IT READS IS OF BULK AT MOST 1048576: true; the input reads as it did. -/
def rtsSameUptoRow : OpenClaim := { program := "ytlakfnlkiebpdaadoor", sum := "f5f2d8c154faf1c464264806686cd14f8aed410663f2c982ea582d492d4aff0c", func := "kindling/kindlinglaw05.RtsSame", spec := "rtsSame", unfollowed := true, recurses := true, named := ["internal/strconv.uint64pow10", "math/bits.deBruijn32tab", "math/bits.deBruijn64tab"], apart := false, laid := [("math/bits.deBruijn32tab", laid_math_bits_deBruijn32tab), ("math/bits.deBruijn64tab", laid_math_bits_deBruijn64tab), ("internal/strconv.uint64pow10", laid_internal_strconv_uint64pow10)], narrowed := true }
def RtsSameUptoSaid : Prop := rtsSameUptoRow.holds Tryd.pinned (OpenSpec.upto rtsSameSpec)

/-- 'kindlinglaw05.RtsTurns', WHERE WHAT IT READS IS OF BULK AT MOST 1048576: true; the input reads as it did. -/
def rtsTurnsUptoRow : OpenClaim := { program := "ytlakfnlkiebpdaadoor", sum := "f5f2d8c154faf1c464264806686cd14f8aed410663f2c982ea582d492d4aff0c", func := "kindling/kindlinglaw05.RtsTurns", spec := "rtsTurns", unfollowed := true, recurses := true, named := ["internal/strconv.uint64pow10", "math/bits.deBruijn32tab", "math/bits.deBruijn64tab"], apart := false, laid := [("math/bits.deBruijn32tab", laid_math_bits_deBruijn32tab), ("math/bits.deBruijn64tab", laid_math_bits_deBruijn64tab), ("internal/strconv.uint64pow10", laid_internal_strconv_uint64pow10)], narrowed := true }
def RtsTurnsUptoSaid : Prop := rtsTurnsUptoRow.holds Tryd.pinned (OpenSpec.upto rtsTurnsSpec)

/-- 'kindlinglaw05.RtsMoves', WHERE WHAT IT READS IS OF BULK AT MOST 1048576: true; the input reads as it did. -/
def rtsMovesUptoRow : OpenClaim := { program := "ytlakfnlkiebpdaadoor", sum := "f5f2d8c154faf1c464264806686cd14f8aed410663f2c982ea582d492d4aff0c", func := "kindling/kindlinglaw05.RtsMoves", spec := "rtsMoves", unfollowed := true, recurses := true, named := ["internal/strconv.uint64pow10", "math/bits.deBruijn32tab", "math/bits.deBruijn64tab"], loops := true, apart := false, laid := [("math/bits.deBruijn32tab", laid_math_bits_deBruijn32tab), ("math/bits.deBruijn64tab", laid_math_bits_deBruijn64tab), ("internal/strconv.uint64pow10", laid_internal_strconv_uint64pow10)], narrowed := true }
def RtsMovesUptoSaid : Prop := rtsMovesUptoRow.holds Tryd.pinned (OpenSpec.upto rtsMovesSpec)

/-- 'kindlinglaw05.RtsShort', WHERE WHAT IT READS IS OF BULK AT MOST 1048576: true; the input reads as it did. -/
def rtsShortUptoRow : OpenClaim := { program := "ytlakfnlkiebpdaadoor", sum := "f5f2d8c154faf1c464264806686cd14f8aed410663f2c982ea582d492d4aff0c", func := "kindling/kindlinglaw05.RtsShort", spec := "rtsShort", unfollowed := true, recurses := true, named := ["internal/strconv.uint64pow10", "math/bits.deBruijn32tab", "math/bits.deBruijn64tab"], loops := true, apart := false, laid := [("math/bits.deBruijn32tab", laid_math_bits_deBruijn32tab), ("math/bits.deBruijn64tab", laid_math_bits_deBruijn64tab), ("internal/strconv.uint64pow10", laid_internal_strconv_uint64pow10)], narrowed := true }
def RtsShortUptoSaid : Prop := rtsShortUptoRow.holds Tryd.pinned (OpenSpec.upto rtsShortSpec)

/-- 'kindlinglaw05.RtsQuotes', WHERE WHAT IT READS IS OF BULK AT MOST 1048576: true; the input reads as it did. -/
def rtsQuotesUptoRow : OpenClaim := { program := "ytlakfnlkiebpdaadoor", sum := "f5f2d8c154faf1c464264806686cd14f8aed410663f2c982ea582d492d4aff0c", func := "kindling/kindlinglaw05.RtsQuotes", spec := "rtsQuotes", unfollowed := true, recurses := true, named := ["internal/strconv.uint64pow10", "math/bits.deBruijn32tab", "math/bits.deBruijn64tab"], apart := false, laid := [("math/bits.deBruijn32tab", laid_math_bits_deBruijn32tab), ("math/bits.deBruijn64tab", laid_math_bits_deBruijn64tab), ("internal/strconv.uint64pow10", laid_internal_strconv_uint64pow10)], narrowed := true }
def RtsQuotesUptoSaid : Prop := rtsQuotesUptoRow.holds Tryd.pinned (OpenSpec.upto rtsQuotesSpec)

/-- 'kindlinglaw05.RtsMakers', WHERE WHAT IT READS IS OF BULK AT MOST 1048576: true; the input reads as it did. -/
def rtsMakersUptoRow : OpenClaim := { program := "ytlakfnlkiebpdaadoor", sum := "f5f2d8c154faf1c464264806686cd14f8aed410663f2c982ea582d492d4aff0c", func := "kindling/kindlinglaw05.RtsMakers", spec := "rtsMakers", unfollowed := true, recurses := true, named := ["internal/strconv.uint64pow10", "math/bits.deBruijn32tab", "math/bits.deBruijn64tab"], apart := false, laid := [("math/bits.deBruijn32tab", laid_math_bits_deBruijn32tab), ("math/bits.deBruijn64tab", laid_math_bits_deBruijn64tab), ("internal/strconv.uint64pow10", laid_internal_strconv_uint64pow10)], narrowed := true }
def RtsMakersUptoSaid : Prop := rtsMakersUptoRow.holds Tryd.pinned (OpenSpec.upto rtsMakersSpec)

/-- 'kindlinglaw05.RtsNil', WHERE WHAT IT READS IS OF BULK AT MOST 1048576: true; the input reads as it did. -/
def rtsNilUptoRow : OpenClaim := { program := "ytlakfnlkiebpdaadoor", sum := "f5f2d8c154faf1c464264806686cd14f8aed410663f2c982ea582d492d4aff0c", func := "kindling/kindlinglaw05.RtsNil", spec := "rtsNil", unfollowed := true, recurses := true, named := ["internal/strconv.uint64pow10", "math/bits.deBruijn32tab", "math/bits.deBruijn64tab"], apart := false, laid := [("math/bits.deBruijn32tab", laid_math_bits_deBruijn32tab), ("math/bits.deBruijn64tab", laid_math_bits_deBruijn64tab), ("internal/strconv.uint64pow10", laid_internal_strconv_uint64pow10)], narrowed := true }
def RtsNilUptoSaid : Prop := rtsNilUptoRow.holds Tryd.pinned (OpenSpec.upto rtsNilSpec)

end Rows
end Go.Proofs.YtlakfnlkiebpdaaDoor
