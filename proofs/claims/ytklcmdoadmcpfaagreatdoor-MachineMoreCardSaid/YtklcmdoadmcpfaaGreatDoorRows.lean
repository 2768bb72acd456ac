/-
  NARROWER THAN 'FOR EVERY INPUT', by the rows' own cells (each row's printed sentence says how): MachineLoads: laid · MachineRuns: laid · MachineAgain: laid · MachineMoves: laid · MachineMore: laid · MachineStops: laid · MachineCopies: laid · MachineClears: laid.
  DERIVED. THE GIVEN ROWS OF THIS SEAT. 8 by the template 'for every input the law returns true; each argument reads behind the call as it read before'; 0 by the template 'total and deterministic' (their statements: YtklcmdoadmcpfaaGreatDoorTotals.lean).
  GIVEN WITH THE SEED: the statements are not yours to turn. If you find one false, say at which input.
  Laid BY PROGRAM, IN A SANDBOX (cutbox-rows.mjs): the forced cells as the released guide's own fill.sh prints them over the translation 3da26d46fa1f1498… (all of the seat's roots in one cut). By AI agents, Wed Nov 11 2026. No macro, syntax, notation, axiom, sorry.
-/
import Derived.Test.YtklcmdoadmcpfaaGreatDoorChecked
import GoSem.Claim
import GoSem.ClaimJoined
import GoSem.ClaimMapViews
import Derived.JoinedTies
import Derived.KernelRfl
namespace Go.Proofs.YtklcmdoadmcpfaaGreatDoor
/- THE CELL 'sum', in the pinned program and in every row, IS THE sha256 OF THE DUMP (.gsa) THAT YtklcmdoadmcpfaaGreatDoorProg.lean LOADS. Nothing in Lean hashes anything: it is a label: what it is worth is what the hold of that sum in a sandbox is worth. -/
noncomputable def Tryz.pinned : Pinned := { name := "ytklcmdoadmcpfaagreatdoor", sum := "3da26d46fa1f1498d70b33159cdcf3a38d8afd974645015343689dd6bfe3ec21", checked := Tryz.checked }
namespace Rows
def none {H : Type} : Left H := { results := [], args := [] }

/- WHAT THE LISTED PACKAGE-LEVEL VARIABLES READ AS WHEN THE CALL BEGINS. Each datum BY PROGRAM (the guide's laid-datum.mjs) off the statement by which the dump's own 'gosem.cut.vars' lays the variable. In a bare row this is a premise. The card (YtklcmdoadmcpfaaGreatDoorCards.lean) ties it to the program's text. -/
def laid_math_bits_deBruijn32tab {H : Type} : DataW H := .agg [.lit (.int .u8 0), .lit (.int .u8 1), .lit (.int .u8 28), .lit (.int .u8 2), .lit (.int .u8 29), .lit (.int .u8 14), .lit (.int .u8 24), .lit (.int .u8 3), .lit (.int .u8 30), .lit (.int .u8 22), .lit (.int .u8 20), .lit (.int .u8 15), .lit (.int .u8 25), .lit (.int .u8 17), .lit (.int .u8 4), .lit (.int .u8 8), .lit (.int .u8 31), .lit (.int .u8 27), .lit (.int .u8 13), .lit (.int .u8 23), .lit (.int .u8 21), .lit (.int .u8 19), .lit (.int .u8 16), .lit (.int .u8 7), .lit (.int .u8 26), .lit (.int .u8 12), .lit (.int .u8 18), .lit (.int .u8 6), .lit (.int .u8 11), .lit (.int .u8 5), .lit (.int .u8 10), .lit (.int .u8 9)]
def laid_math_bits_deBruijn64tab {H : Type} : DataW H := .agg [.lit (.int .u8 0), .lit (.int .u8 1), .lit (.int .u8 56), .lit (.int .u8 2), .lit (.int .u8 57), .lit (.int .u8 49), .lit (.int .u8 28), .lit (.int .u8 3), .lit (.int .u8 61), .lit (.int .u8 58), .lit (.int .u8 42), .lit (.int .u8 50), .lit (.int .u8 38), .lit (.int .u8 29), .lit (.int .u8 17), .lit (.int .u8 4), .lit (.int .u8 62), .lit (.int .u8 47), .lit (.int .u8 59), .lit (.int .u8 36), .lit (.int .u8 45), .lit (.int .u8 43), .lit (.int .u8 51), .lit (.int .u8 22), .lit (.int .u8 53), .lit (.int .u8 39), .lit (.int .u8 33), .lit (.int .u8 30), .lit (.int .u8 24), .lit (.int .u8 18), .lit (.int .u8 12), .lit (.int .u8 5), .lit (.int .u8 63), .lit (.int .u8 55), .lit (.int .u8 48), .lit (.int .u8 27), .lit (.int .u8 60), .lit (.int .u8 41), .lit (.int .u8 37), .lit (.int .u8 16), .lit (.int .u8 46), .lit (.int .u8 35), .lit (.int .u8 44), .lit (.int .u8 21), .lit (.int .u8 52), .lit (.int .u8 32), .lit (.int .u8 23), .lit (.int .u8 11), .lit (.int .u8 54), .lit (.int .u8 26), .lit (.int .u8 40), .lit (.int .u8 15), .lit (.int .u8 34), .lit (.int .u8 20), .lit (.int .u8 31), .lit (.int .u8 10), .lit (.int .u8 25), .lit (.int .u8 14), .lit (.int .u8 19), .lit (.int .u8 9), .lit (.int .u8 13), .lit (.int .u8 8), .lit (.int .u8 7), .lit (.int .u8 6)]
def laid_internal_strconv_uint64pow10 {H : Type} : DataW H := .agg [.lit (.int .u64 1), .lit (.int .u64 10), .lit (.int .u64 100), .lit (.int .u64 1000), .lit (.int .u64 10000), .lit (.int .u64 100000), .lit (.int .u64 1000000), .lit (.int .u64 10000000), .lit (.int .u64 100000000), .lit (.int .u64 1000000000), .lit (.int .u64 10000000000), .lit (.int .u64 100000000000), .lit (.int .u64 1000000000000), .lit (.int .u64 10000000000000), .lit (.int .u64 100000000000000), .lit (.int .u64 1000000000000000), .lit (.int .u64 10000000000000000), .lit (.int .u64 100000000000000000), .lit (.int .u64 1000000000000000000), .lit (.int .u64 10000000000000000000)]
def laid_kindling_isa_operations {H : Type} : DataW H := .agg [.agg [.lit (.string []), .lit (.int .i64 0)], .agg [.lit (.string [105, 110, 116]), .lit (.int .i64 9)], .agg [.lit (.string [108, 105, 116]), .lit (.int .i64 9)], .agg [.lit (.string [109, 111, 118, 101]), .lit (.int .i64 3)], .agg [.lit (.string [112, 117, 116]), .lit (.int .i64 9)], .agg [.lit (.string [108, 111, 97, 100]), .lit (.int .i64 9)], .agg [.lit (.string [115, 97, 118, 101]), .lit (.int .i64 9)], .agg [.lit (.string [97, 100, 100]), .lit (.int .i64 7)], .agg [.lit (.string [115, 117, 98]), .lit (.int .i64 7)], .agg [.lit (.string [109, 117, 108]), .lit (.int .i64 7)], .agg [.lit (.string [100, 105, 118]), .lit (.int .i64 7)], .agg [.lit (.string [109, 111, 100]), .lit (.int .i64 7)], .agg [.lit (.string [110, 101, 103]), .lit (.int .i64 3)], .agg [.lit (.string [108, 101, 115, 115]), .lit (.int .i64 7)], .agg [.lit (.string [97, 116, 109, 111, 115, 116]), .lit (.int .i64 7)], .agg [.lit (.string [115, 97, 109, 101]), .lit (.int .i64 7)], .agg [.lit (.string [116, 117, 112, 108, 101]), .lit (.int .i64 9)], .agg [.lit (.string [99, 108, 111, 115, 117, 114, 101]), .lit (.int .i64 9)], .agg [.lit (.string [114, 101, 102]), .lit (.int .i64 3)], .agg [.lit (.string [102, 105, 101, 108, 100]), .lit (.int .i64 11)], .agg [.lit (.string [102, 105, 108, 108]), .lit (.int .i64 11)], .agg [.lit (.string [97, 115, 115, 105, 103, 110]), .lit (.int .i64 3)], .agg [.lit (.string [116, 97, 103]), .lit (.int .i64 3)], .agg [.lit (.string [106, 117, 109, 112]), .lit (.int .i64 8)], .agg [.lit (.string [117, 110, 108, 101, 115, 115]), .lit (.int .i64 9)], .agg [.lit (.string [101, 110, 116, 101, 114]), .lit (.int .i64 8)], .agg [.lit (.string [99, 97, 108, 108]), .lit (.int .i64 3)], .agg [.lit (.string [116, 97, 105, 108]), .lit (.int .i64 3)], .agg [.lit (.string [114, 101, 116, 117, 114, 110]), .lit (.int .i64 1)], .agg [.lit (.string [104, 97, 110, 100, 108, 101]), .lit (.int .i64 8)], .agg [.lit (.string [117, 110, 104, 97, 110, 100, 108, 101]), .lit (.int .i64 0)], .agg [.lit (.string [114, 97, 105, 115, 101]), .lit (.int .i64 1)], .agg [.lit (.string [106, 111, 105, 110]), .lit (.int .i64 7)], .agg [.lit (.string [115, 105, 122, 101]), .lit (.int .i64 3)], .agg [.lit (.string [115, 116, 114]), .lit (.int .i64 3)], .agg [.lit (.string [111, 114, 100]), .lit (.int .i64 7)], .agg [.lit (.string [100, 105, 103, 105, 116, 115]), .lit (.int .i64 3)]]

/-- 'kindlinglaw06.MachineLoads': WHATEVER THE INPUT: true; the input reads as it did. -/
def machineLoadsSpec : ChangeSpec := { name := "machineLoads", fn := fun _ => fun
  | [d1, d2, d3] => { results := [.lit (.bool true)], args := [d1, d2, d3] }
  | _ => none }
def machineLoadsRow : OpenClaim := { program := "ytklcmdoadmcpfaagreatdoor", sum := "3da26d46fa1f1498d70b33159cdcf3a38d8afd974645015343689dd6bfe3ec21", func := "kindling/kindlinglaw06.MachineLoads", spec := "machineLoads", unfollowed := true, recurses := true, named := ["kindling/isa.operations", "internal/strconv.uint64pow10", "math/bits.deBruijn32tab", "math/bits.deBruijn64tab"], apart := false, laid := [("math/bits.deBruijn32tab", laid_math_bits_deBruijn32tab), ("math/bits.deBruijn64tab", laid_math_bits_deBruijn64tab), ("internal/strconv.uint64pow10", laid_internal_strconv_uint64pow10), ("kindling/isa.operations", laid_kindling_isa_operations)] }
def MachineLoadsSaid : Prop := machineLoadsRow.holds Tryz.pinned (OpenSpec.ofChange machineLoadsSpec)

/-- ITS FALSE NEIGHBOUR: 'it returns false'. Refute it at one input. -/
def machineLoadsWrong : ChangeSpec := { name := "machineLoads", fn := fun _ => fun
  | [d1, d2, d3] => { results := [.lit (.bool false)], args := [d1, d2, d3] }
  | _ => none }
def MachineLoadsWrongFalsely : Prop := machineLoadsRow.holds Tryz.pinned (OpenSpec.ofChange machineLoadsWrong)

/-- 'kindlinglaw06.MachineRuns': WHATEVER THE INPUT: true; the input reads as it did. -/
def machineRunsSpec : ChangeSpec := { name := "machineRuns", fn := fun _ => fun
  | [d1, d2] => { results := [.lit (.bool true)], args := [d1, d2] }
  | _ => none }
def machineRunsRow : OpenClaim := { program := "ytklcmdoadmcpfaagreatdoor", sum := "3da26d46fa1f1498d70b33159cdcf3a38d8afd974645015343689dd6bfe3ec21", func := "kindling/kindlinglaw06.MachineRuns", spec := "machineRuns", unfollowed := true, recurses := true, named := ["kindling/isa.operations", "internal/strconv.uint64pow10", "math/bits.deBruijn32tab", "math/bits.deBruijn64tab"], apart := false, laid := [("math/bits.deBruijn32tab", laid_math_bits_deBruijn32tab), ("math/bits.deBruijn64tab", laid_math_bits_deBruijn64tab), ("internal/strconv.uint64pow10", laid_internal_strconv_uint64pow10), ("kindling/isa.operations", laid_kindling_isa_operations)] }
def MachineRunsSaid : Prop := machineRunsRow.holds Tryz.pinned (OpenSpec.ofChange machineRunsSpec)

/-- ITS FALSE NEIGHBOUR: 'it returns false'. Refute it at one input. -/
def machineRunsWrong : ChangeSpec := { name := "machineRuns", fn := fun _ => fun
  | [d1, d2] => { results := [.lit (.bool false)], args := [d1, d2] }
  | _ => none }
def MachineRunsWrongFalsely : Prop := machineRunsRow.holds Tryz.pinned (OpenSpec.ofChange machineRunsWrong)

/-- 'kindlinglaw06.MachineAgain': WHATEVER THE INPUT: true; the input reads as it did. -/
def machineAgainSpec : ChangeSpec := { name := "machineAgain", fn := fun _ => fun
  | [d1, d2, d3] => { results := [.lit (.bool true)], args := [d1, d2, d3] }
  | _ => none }
def machineAgainRow : OpenClaim := { program := "ytklcmdoadmcpfaagreatdoor", sum := "3da26d46fa1f1498d70b33159cdcf3a38d8afd974645015343689dd6bfe3ec21", func := "kindling/kindlinglaw06.MachineAgain", spec := "machineAgain", unfollowed := true, recurses := true, named := ["kindling/isa.operations", "internal/strconv.uint64pow10", "math/bits.deBruijn32tab", "math/bits.deBruijn64tab"], apart := false, laid := [("math/bits.deBruijn32tab", laid_math_bits_deBruijn32tab), ("math/bits.deBruijn64tab", laid_math_bits_deBruijn64tab), ("internal/strconv.uint64pow10", laid_internal_strconv_uint64pow10), ("kindling/isa.operations", laid_kindling_isa_operations)] }
def MachineAgainSaid : Prop := machineAgainRow.holds Tryz.pinned (OpenSpec.ofChange machineAgainSpec)

/-- ITS FALSE NEIGHBOUR: 'it returns false'. Refute it at one input. -/
def machineAgainWrong : ChangeSpec := { name := "machineAgain", fn := fun _ => fun
  | [d1, d2, d3] => { results := [.lit (.bool false)], args := [d1, d2, d3] }
  | _ => none }
def MachineAgainWrongFalsely : Prop := machineAgainRow.holds Tryz.pinned (OpenSpec.ofChange machineAgainWrong)

/-- 'kindlinglaw06.MachineMoves': WHATEVER THE INPUT: true; the input reads as it did. -/
def machineMovesSpec : ChangeSpec := { name := "machineMoves", fn := fun _ => fun
  | [d1, d2, d3] => { results := [.lit (.bool true)], args := [d1, d2, d3] }
  | _ => none }
def machineMovesRow : OpenClaim := { program := "ytklcmdoadmcpfaagreatdoor", sum := "3da26d46fa1f1498d70b33159cdcf3a38d8afd974645015343689dd6bfe3ec21", func := "kindling/kindlinglaw06.MachineMoves", spec := "machineMoves", unfollowed := true, recurses := true, named := ["kindling/isa.operations", "internal/strconv.uint64pow10", "math/bits.deBruijn32tab", "math/bits.deBruijn64tab"], apart := false, laid := [("math/bits.deBruijn32tab", laid_math_bits_deBruijn32tab), ("math/bits.deBruijn64tab", laid_math_bits_deBruijn64tab), ("internal/strconv.uint64pow10", laid_internal_strconv_uint64pow10), ("kindling/isa.operations", laid_kindling_isa_operations)] }
def MachineMovesSaid : Prop := machineMovesRow.holds Tryz.pinned (OpenSpec.ofChange machineMovesSpec)

/-- ITS FALSE NEIGHBOUR: 'it returns false'. Refute it at one input. -/
def machineMovesWrong : ChangeSpec := { name := "machineMoves", fn := fun _ => fun
  | [d1, d2, d3] => { results := [.lit (.bool false)], args := [d1, d2, d3] }
  | _ => none }
def MachineMovesWrongFalsely : Prop := machineMovesRow.holds Tryz.pinned (OpenSpec.ofChange machineMovesWrong)

/-- 'kindlinglaw06.MachineMore': WHATEVER THE INPUT: true; the input reads as it did. -/
def machineMoreSpec : ChangeSpec := { name := "machineMore", fn := fun _ => fun
  | [d1, d2, d3] => { results := [.lit (.bool true)], args := [d1, d2, d3] }
  | _ => none }
def machineMoreRow : OpenClaim := { program := "ytklcmdoadmcpfaagreatdoor", sum := "3da26d46fa1f1498d70b33159cdcf3a38d8afd974645015343689dd6bfe3ec21", func := "kindling/kindlinglaw06.MachineMore", spec := "machineMore", unfollowed := true, recurses := true, named := ["kindling/isa.operations", "internal/strconv.uint64pow10", "math/bits.deBruijn32tab", "math/bits.deBruijn64tab"], apart := false, laid := [("math/bits.deBruijn32tab", laid_math_bits_deBruijn32tab), ("math/bits.deBruijn64tab", laid_math_bits_deBruijn64tab), ("internal/strconv.uint64pow10", laid_internal_strconv_uint64pow10), ("kindling/isa.operations", laid_kindling_isa_operations)] }
def MachineMoreSaid : Prop := machineMoreRow.holds Tryz.pinned (OpenSpec.ofChange machineMoreSpec)

/-- ITS FALSE NEIGHBOUR: 'it returns false'. Refute it at one input. -/
def machineMoreWrong : ChangeSpec := { name := "machineMore", fn := fun _ => fun
  | [d1, d2, d3] => { results := [.lit (.bool false)], args := [d1, d2, d3] }
  | _ => none }
def MachineMoreWrongFalsely : Prop := machineMoreRow.holds Tryz.pinned (OpenSpec.ofChange machineMoreWrong)

/-- 'kindlinglaw06.MachineStops': WHATEVER THE INPUT: true; the input reads as it did. -/
def machineStopsSpec : ChangeSpec := { name := "machineStops", fn := fun _ => fun
  | [d1, d2] => { results := [.lit (.bool true)], args := [d1, d2] }
  | _ => none }
def machineStopsRow : OpenClaim := { program := "ytklcmdoadmcpfaagreatdoor", sum := "3da26d46fa1f1498d70b33159cdcf3a38d8afd974645015343689dd6bfe3ec21", func := "kindling/kindlinglaw06.MachineStops", spec := "machineStops", unfollowed := true, recurses := true, named := ["kindling/isa.operations", "internal/strconv.uint64pow10", "math/bits.deBruijn32tab", "math/bits.deBruijn64tab"], apart := false, laid := [("math/bits.deBruijn32tab", laid_math_bits_deBruijn32tab), ("math/bits.deBruijn64tab", laid_math_bits_deBruijn64tab), ("internal/strconv.uint64pow10", laid_internal_strconv_uint64pow10), ("kindling/isa.operations", laid_kindling_isa_operations)] }
def MachineStopsSaid : Prop := machineStopsRow.holds Tryz.pinned (OpenSpec.ofChange machineStopsSpec)

/-- ITS FALSE NEIGHBOUR: 'it returns false'. Refute it at one input. -/
def machineStopsWrong : ChangeSpec := { name := "machineStops", fn := fun _ => fun
  | [d1, d2] => { results := [.lit (.bool false)], args := [d1, d2] }
  | _ => none }
def MachineStopsWrongFalsely : Prop := machineStopsRow.holds Tryz.pinned (OpenSpec.ofChange machineStopsWrong)

/-- 'kindlinglaw06.MachineCopies': WHATEVER THE INPUT: true; the input reads as it did. -/
def machineCopiesSpec : ChangeSpec := { name := "machineCopies", fn := fun _ => fun
  | [d1, d2] => { results := [.lit (.bool true)], args := [d1, d2] }
  | _ => none }
def machineCopiesRow : OpenClaim := { program := "ytklcmdoadmcpfaagreatdoor", sum := "3da26d46fa1f1498d70b33159cdcf3a38d8afd974645015343689dd6bfe3ec21", func := "kindling/kindlinglaw06.MachineCopies", spec := "machineCopies", unfollowed := true, recurses := true, named := ["kindling/isa.operations", "internal/strconv.uint64pow10", "math/bits.deBruijn32tab", "math/bits.deBruijn64tab"], apart := false, laid := [("math/bits.deBruijn32tab", laid_math_bits_deBruijn32tab), ("math/bits.deBruijn64tab", laid_math_bits_deBruijn64tab), ("internal/strconv.uint64pow10", laid_internal_strconv_uint64pow10), ("kindling/isa.operations", laid_kindling_isa_operations)] }
def MachineCopiesSaid : Prop := machineCopiesRow.holds Tryz.pinned (OpenSpec.ofChange machineCopiesSpec)

/-- ITS FALSE NEIGHBOUR: 'it returns false'. Refute it at one input. -/
def machineCopiesWrong : ChangeSpec := { name := "machineCopies", fn := fun _ => fun
  | [d1, d2] => { results := [.lit (.bool false)], args := [d1, d2] }
  | _ => none }
def MachineCopiesWrongFalsely : Prop := machineCopiesRow.holds Tryz.pinned (OpenSpec.ofChange machineCopiesWrong)

/-- 'kindlinglaw06.MachineClears': WHATEVER THE INPUT: true; the input reads as it did. -/
def machineClearsSpec : ChangeSpec := { name := "machineClears", fn := fun _ => fun
  | [d1, d2, d3] => { results := [.lit (.bool true)], args := [d1, d2, d3] }
  | _ => none }
def machineClearsRow : OpenClaim := { program := "ytklcmdoadmcpfaagreatdoor", sum := "3da26d46fa1f1498d70b33159cdcf3a38d8afd974645015343689dd6bfe3ec21", func := "kindling/kindlinglaw06.MachineClears", spec := "machineClears", unfollowed := true, recurses := true, named := ["kindling/isa.operations", "internal/strconv.uint64pow10", "math/bits.deBruijn32tab", "math/bits.deBruijn64tab"], apart := false, laid := [("math/bits.deBruijn32tab", laid_math_bits_deBruijn32tab), ("math/bits.deBruijn64tab", laid_math_bits_deBruijn64tab), ("internal/strconv.uint64pow10", laid_internal_strconv_uint64pow10), ("kindling/isa.operations", laid_kindling_isa_operations)] }
def MachineClearsSaid : Prop := machineClearsRow.holds Tryz.pinned (OpenSpec.ofChange machineClearsSpec)

/-- ITS FALSE NEIGHBOUR: 'it returns false'. Refute it at one input. -/
def machineClearsWrong : ChangeSpec := { name := "machineClears", fn := fun _ => fun
  | [d1, d2, d3] => { results := [.lit (.bool false)], args := [d1, d2, d3] }
  | _ => none }
def MachineClearsWrongFalsely : Prop := machineClearsRow.holds Tryz.pinned (OpenSpec.ofChange machineClearsWrong)

/- THE SECOND FORM. 'bulk': how many values and letters a reading holds, each counted each time it is reached (what is shared counts as often as it is met; a slice's spare places count too). A statement '..UptoSaid' is the law's where the arguments, and the package variables that the reading takes, are together of bulk at most 1048576: NARROWER than '..Said'. Prove '..Said' where nothing that the law and all that it calls make is longer than what came in: it says more and counts as full. Else prove '..UptoSaid'. A law counts once. -/
mutual
def uptoBulk {H : Type} : DataW H → Nat
  | .lit (.string bytes) => bytes.length + 1
  | .lit _ => 1
  | .nil => 1
  | .ptr d => uptoBulk d + 1
  | .slice elems spare => uptoBulkAll elems + uptoBulkAll spare + 1
  | .agg parts => uptoBulkAll parts + 1
  | .iface _ d => uptoBulk d + 1
  | .map entries => uptoBulkEntries entries + 1
  | .held _ => 1
def uptoBulkAll {H : Type} : List (DataW H) → Nat
  | [] => 0
  | d :: r => uptoBulk d + uptoBulkAll r
def uptoBulkEntries {H : Type} : List (Lit × DataW H) → Nat
  | [] => 0
  | x :: r => uptoBulkEntry x + uptoBulkEntries r
def uptoBulkEntry {H : Type} : Lit × DataW H → Nat
  | (.string bytes, d) => bytes.length + uptoBulk d + 1
  | (_, d) => uptoBulk d + 1
 end
def uptoSmall : (H : Type) → List (DataW H) → Bool := fun _ ds => decide (uptoBulkAll ds ≤ 1048576)
def OpenSpec.upto (s : _root_.Go.ChangeSpec) : _root_.Go.OpenSpec := { _root_.Go.OpenSpec.ofChange s with cond := some uptoSmall }

/-- 'kindlinglaw06.MachineLoads', WHERE WHAT IT READS IS OF BULK AT MOST 1048576: true; the input reads as it did. -/
def machineLoadsUptoRow : OpenClaim := { program := "ytklcmdoadmcpfaagreatdoor", sum := "3da26d46fa1f1498d70b33159cdcf3a38d8afd974645015343689dd6bfe3ec21", func := "kindling/kindlinglaw06.MachineLoads", spec := "machineLoads", unfollowed := true, recurses := true, named := ["kindling/isa.operations", "internal/strconv.uint64pow10", "math/bits.deBruijn32tab", "math/bits.deBruijn64tab"], apart := false, laid := [("math/bits.deBruijn32tab", laid_math_bits_deBruijn32tab), ("math/bits.deBruijn64tab", laid_math_bits_deBruijn64tab), ("internal/strconv.uint64pow10", laid_internal_strconv_uint64pow10), ("kindling/isa.operations", laid_kindling_isa_operations)], narrowed := true }
def MachineLoadsUptoSaid : Prop := machineLoadsUptoRow.holds Tryz.pinned (OpenSpec.upto machineLoadsSpec)

/-- 'kindlinglaw06.MachineRuns', WHERE WHAT IT READS IS OF BULK AT MOST 1048576: true; the input reads as it did. -/
def machineRunsUptoRow : OpenClaim := { program := "ytklcmdoadmcpfaagreatdoor", sum := "3da26d46fa1f1498d70b33159cdcf3a38d8afd974645015343689dd6bfe3ec21", func := "kindling/kindlinglaw06.MachineRuns", spec := "machineRuns", unfollowed := true, recurses := true, named := ["kindling/isa.operations", "internal/strconv.uint64pow10", "math/bits.deBruijn32tab", "math/bits.deBruijn64tab"], apart := false, laid := [("math/bits.deBruijn32tab", laid_math_bits_deBruijn32tab), ("math/bits.deBruijn64tab", laid_math_bits_deBruijn64tab), ("internal/strconv.uint64pow10", laid_internal_strconv_uint64pow10), ("kindling/isa.operations", laid_kindling_isa_operations)], narrowed := true }
def MachineRunsUptoSaid : Prop := machineRunsUptoRow.holds Tryz.pinned (OpenSpec.upto machineRunsSpec)

/-- 'kindlinglaw06.MachineAgain', WHERE WHAT IT READS IS OF BULK AT MOST 1048576: true; the input reads as it did. -/
def machineAgainUptoRow : OpenClaim := { program := "ytklcmdoadmcpfaagreatdoor", sum := "3da26d46fa1f1498d70b33159cdcf3a38d8afd974645015343689dd6bfe3ec21", func := "kindling/kindlinglaw06.MachineAgain", spec := "machineAgain", unfollowed := true, recurses := true, named := ["kindling/isa.operations", "internal/strconv.uint64pow10", "math/bits.deBruijn32tab", "math/bits.deBruijn64tab"], apart := false, laid := [("math/bits.deBruijn32tab", laid_math_bits_deBruijn32tab), ("math/bits.deBruijn64tab", laid_math_bits_deBruijn64tab), ("internal/strconv.uint64pow10", laid_internal_strconv_uint64pow10), ("kindling/isa.operations", laid_kindling_isa_operations)], narrowed := true }
def MachineAgainUptoSaid : Prop := machineAgainUptoRow.holds Tryz.pinned (OpenSpec.upto machineAgainSpec)

/-- 'kindlinglaw06.MachineMoves', WHERE WHAT IT READS IS OF BULK AT MOST 1048576: true; the input reads as it did. -/
def machineMovesUptoRow : OpenClaim := { program := "ytklcmdoadmcpfaagreatdoor", sum := "3da26d46fa1f1498d70b33159cdcf3a38d8afd974645015343689dd6bfe3ec21", func := "kindling/kindlinglaw06.MachineMoves", spec := "machineMoves", unfollowed := true, recurses := true, named := ["kindling/isa.operations", "internal/strconv.uint64pow10", "math/bits.deBruijn32tab", "math/bits.deBruijn64tab"], apart := false, laid := [("math/bits.deBruijn32tab", laid_math_bits_deBruijn32tab), ("math/bits.deBruijn64tab", laid_math_bits_deBruijn64tab), ("internal/strconv.uint64pow10", laid_internal_strconv_uint64pow10), ("kindling/isa.operations", laid_kindling_isa_operations)], narrowed := true }
def MachineMovesUptoSaid : Prop := machineMovesUptoRow.holds Tryz.pinned (OpenSpec.upto machineMovesSpec)

/-- 'kindlinglaw06.MachineMore', WHERE WHAT IT READS IS OF BULK AT MOST 1048576: true; the input reads as it did. -/
def machineMoreUptoRow : OpenClaim := { program := "ytklcmdoadmcpfaagreatdoor", sum := "3da26d46fa1f1498d70b33159cdcf3a38d8afd974645015343689dd6bfe3ec21", func := "kindling/kindlinglaw06.MachineMore", spec := "machineMore", unfollowed := true, recurses := true, named := ["kindling/isa.operations", "internal/strconv.uint64pow10", "math/bits.deBruijn32tab", "math/bits.deBruijn64tab"], apart := false, laid := [("math/bits.deBruijn32tab", laid_math_bits_deBruijn32tab), ("math/bits.deBruijn64tab", laid_math_bits_deBruijn64tab), ("internal/strconv.uint64pow10", laid_internal_strconv_uint64pow10), ("kindling/isa.operations", laid_kindling_isa_operations)], narrowed := true }
def MachineMoreUptoSaid : Prop := machineMoreUptoRow.holds Tryz.pinned (OpenSpec.upto machineMoreSpec)

/-- 'kindlinglaw06.MachineStops', WHERE WHAT IT READS IS OF BULK AT MOST 1048576: true; the input reads as it did. -/
def machineStopsUptoRow : OpenClaim := { program := "ytklcmdoadmcpfaagreatdoor", sum := "3da26d46fa1f1498d70b33159cdcf3a38d8afd974645015343689dd6bfe3ec21", func := "kindling/kindlinglaw06.MachineStops", spec := "machineStops", unfollowed := true, recurses := true, named := ["kindling/isa.operations", "internal/strconv.uint64pow10", "math/bits.deBruijn32tab", "math/bits.deBruijn64tab"], apart := false, laid := [("math/bits.deBruijn32tab", laid_math_bits_deBruijn32tab), ("math/bits.deBruijn64tab", laid_math_bits_deBruijn64tab), ("internal/strconv.uint64pow10", laid_internal_strconv_uint64pow10), ("kindling/isa.operations", laid_kindling_isa_operations)], narrowed := true }
def MachineStopsUptoSaid : Prop := machineStopsUptoRow.holds Tryz.pinned (OpenSpec.upto machineStopsSpec)

/-- 'kindlinglaw06.MachineCopies', WHERE WHAT IT READS IS OF BULK AT MOST 1048576: true; the input reads as it did. -/
def machineCopiesUptoRow : OpenClaim := { program := "ytklcmdoadmcpfaagreatdoor", sum := "3da26d46fa1f1498d70b33159cdcf3a38d8afd974645015343689dd6bfe3ec21", func := "kindling/kindlinglaw06.MachineCopies", spec := "machineCopies", unfollowed := true, recurses := true, named := ["kindling/isa.operations", "internal/strconv.uint64pow10", "math/bits.deBruijn32tab", "math/bits.deBruijn64tab"], apart := false, laid := [("math/bits.deBruijn32tab", laid_math_bits_deBruijn32tab), ("math/bits.deBruijn64tab", laid_math_bits_deBruijn64tab), ("internal/strconv.uint64pow10", laid_internal_strconv_uint64pow10), ("kindling/isa.operations", laid_kindling_isa_operations)], narrowed := true }
def MachineCopiesUptoSaid : Prop := machineCopiesUptoRow.holds Tryz.pinned (OpenSpec.upto machineCopiesSpec)

/-- 'kindlinglaw06.MachineClears', WHERE WHAT IT READS IS OF BULK AT MOST 1048576: true; the input reads as it did. -/
def machineClearsUptoRow : OpenClaim := { program := "ytklcmdoadmcpfaagreatdoor", sum := "3da26d46fa1f1498d70b33159cdcf3a38d8afd974645015343689dd6bfe3ec21", func := "kindling/kindlinglaw06.MachineClears", spec := "machineClears", unfollowed := true, recurses := true, named := ["kindling/isa.operations", "internal/strconv.uint64pow10", "math/bits.deBruijn32tab", "math/bits.deBruijn64tab"], apart := false, laid := [("math/bits.deBruijn32tab", laid_math_bits_deBruijn32tab), ("math/bits.deBruijn64tab", laid_math_bits_deBruijn64tab), ("internal/strconv.uint64pow10", laid_internal_strconv_uint64pow10), ("kindling/isa.operations", laid_kindling_isa_operations)], narrowed := true }
def MachineClearsUptoSaid : Prop := machineClearsUptoRow.holds Tryz.pinned (OpenSpec.upto machineClearsSpec)

end Rows
end Go.Proofs.YtklcmdoadmcpfaaGreatDoor
