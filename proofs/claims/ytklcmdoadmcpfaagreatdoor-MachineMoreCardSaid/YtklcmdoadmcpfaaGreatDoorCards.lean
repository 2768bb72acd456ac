/-
  DERIVED. GIVEN WITH THE SEED: THE CARDS: each row of YtklcmdoadmcpfaaGreatDoorRows.lean that lists a variable, with what it lists TIED to the program's text (the seventh form; the later family's looks); each row that meets fmt, with fmt's text TOLD by the authors' own Lean function (tested against real Go, not proved from fmt's source: count such statements apart). THE CARD IS WHAT COUNTS. Prove the row's statement (the work); the ties are given (YtklcmdoadmcpfaaGreatDoorTie.lean); close each card by the builder's one call (the guide's Derived/Test/ToyasCard.lean, 'card_holds'). Laid BY PROGRAM, IN A SANDBOX (cutbox-door.mjs). By AI agents, Wed Nov 11 2026. No macro, syntax, notation, axiom, sorry.
-/
import Derived.Test.YtklcmdoadmcpfaaGreatDoorRows
import GoSem.ClaimSeven
namespace Go.Proofs.YtklcmdoadmcpfaaGreatDoor
namespace Rows

/-- THE TIED CARD OF 'kindlinglaw06.MachineLoads'. -/
def machineLoadsCard : Claim7 := { stood := { row := machineLoadsRow, standIns := [], harness := (true, "5cb367284dba02c075a1e13994112dd51b3a01fd2c2d5fb5b65ca70d43a8aee9"), looks := false }, kinds := [], alts := [], laidByText := true, laidKinds := [.data, .data, .data, .data], laidTests := true, laidLooks := .later }
def MachineLoadsCardSaid : Prop := Claim7.holds Tryz.pinned (.plain (OpenSpec.ofChange machineLoadsSpec)) machineLoadsCard

/-- THE TIED CARD OF 'kindlinglaw06.MachineRuns'. -/
def machineRunsCard : Claim7 := { stood := { row := machineRunsRow, standIns := [], harness := (true, "5cb367284dba02c075a1e13994112dd51b3a01fd2c2d5fb5b65ca70d43a8aee9"), looks := false }, kinds := [], alts := [], laidByText := true, laidKinds := [.data, .data, .data, .data], laidTests := true, laidLooks := .later }
def MachineRunsCardSaid : Prop := Claim7.holds Tryz.pinned (.plain (OpenSpec.ofChange machineRunsSpec)) machineRunsCard

/-- THE TIED CARD OF 'kindlinglaw06.MachineAgain'. -/
def machineAgainCard : Claim7 := { stood := { row := machineAgainRow, standIns := [], harness := (true, "5cb367284dba02c075a1e13994112dd51b3a01fd2c2d5fb5b65ca70d43a8aee9"), looks := false }, kinds := [], alts := [], laidByText := true, laidKinds := [.data, .data, .data, .data], laidTests := true, laidLooks := .later }
def MachineAgainCardSaid : Prop := Claim7.holds Tryz.pinned (.plain (OpenSpec.ofChange machineAgainSpec)) machineAgainCard

/-- THE TIED CARD OF 'kindlinglaw06.MachineMoves'. -/
def machineMovesCard : Claim7 := { stood := { row := machineMovesRow, standIns := [], harness := (true, "5cb367284dba02c075a1e13994112dd51b3a01fd2c2d5fb5b65ca70d43a8aee9"), looks := false }, kinds := [], alts := [], laidByText := true, laidKinds := [.data, .data, .data, .data], laidTests := true, laidLooks := .later }
def MachineMovesCardSaid : Prop := Claim7.holds Tryz.pinned (.plain (OpenSpec.ofChange machineMovesSpec)) machineMovesCard

/-- THE TIED CARD OF 'kindlinglaw06.MachineMore'. -/
def machineMoreCard : Claim7 := { stood := { row := machineMoreRow, standIns := [], harness := (true, "5cb367284dba02c075a1e13994112dd51b3a01fd2c2d5fb5b65ca70d43a8aee9"), looks := false }, kinds := [], alts := [], laidByText := true, laidKinds := [.data, .data, .data, .data], laidTests := true, laidLooks := .later }
def MachineMoreCardSaid : Prop := Claim7.holds Tryz.pinned (.plain (OpenSpec.ofChange machineMoreSpec)) machineMoreCard

/-- THE TIED CARD OF 'kindlinglaw06.MachineStops'. -/
def machineStopsCard : Claim7 := { stood := { row := machineStopsRow, standIns := [], harness := (true, "5cb367284dba02c075a1e13994112dd51b3a01fd2c2d5fb5b65ca70d43a8aee9"), looks := false }, kinds := [], alts := [], laidByText := true, laidKinds := [.data, .data, .data, .data], laidTests := true, laidLooks := .later }
def MachineStopsCardSaid : Prop := Claim7.holds Tryz.pinned (.plain (OpenSpec.ofChange machineStopsSpec)) machineStopsCard

/-- THE TIED CARD OF 'kindlinglaw06.MachineCopies'. -/
def machineCopiesCard : Claim7 := { stood := { row := machineCopiesRow, standIns := [], harness := (true, "5cb367284dba02c075a1e13994112dd51b3a01fd2c2d5fb5b65ca70d43a8aee9"), looks := false }, kinds := [], alts := [], laidByText := true, laidKinds := [.data, .data, .data, .data], laidTests := true, laidLooks := .later }
def MachineCopiesCardSaid : Prop := Claim7.holds Tryz.pinned (.plain (OpenSpec.ofChange machineCopiesSpec)) machineCopiesCard

/-- THE TIED CARD OF 'kindlinglaw06.MachineClears'. -/
def machineClearsCard : Claim7 := { stood := { row := machineClearsRow, standIns := [], harness := (true, "5cb367284dba02c075a1e13994112dd51b3a01fd2c2d5fb5b65ca70d43a8aee9"), looks := false }, kinds := [], alts := [], laidByText := true, laidKinds := [.data, .data, .data, .data], laidTests := true, laidLooks := .later }
def MachineClearsCardSaid : Prop := Claim7.holds Tryz.pinned (.plain (OpenSpec.ofChange machineClearsSpec)) machineClearsCard

/-- THE SECOND FORM's CARD OF 'kindlinglaw06.MachineLoads'. -/
def machineLoadsUptoCard : Claim7 := { stood := { row := machineLoadsUptoRow, standIns := [], harness := (true, "5cb367284dba02c075a1e13994112dd51b3a01fd2c2d5fb5b65ca70d43a8aee9"), looks := false }, kinds := [], alts := [], laidByText := true, laidKinds := [.data, .data, .data, .data], laidTests := true, laidLooks := .later }
def MachineLoadsUptoCardSaid : Prop := Claim7.holds Tryz.pinned (.plain (OpenSpec.upto machineLoadsSpec)) machineLoadsUptoCard

/-- THE SECOND FORM's CARD OF 'kindlinglaw06.MachineRuns'. -/
def machineRunsUptoCard : Claim7 := { stood := { row := machineRunsUptoRow, standIns := [], harness := (true, "5cb367284dba02c075a1e13994112dd51b3a01fd2c2d5fb5b65ca70d43a8aee9"), looks := false }, kinds := [], alts := [], laidByText := true, laidKinds := [.data, .data, .data, .data], laidTests := true, laidLooks := .later }
def MachineRunsUptoCardSaid : Prop := Claim7.holds Tryz.pinned (.plain (OpenSpec.upto machineRunsSpec)) machineRunsUptoCard

/-- THE SECOND FORM's CARD OF 'kindlinglaw06.MachineAgain'. -/
def machineAgainUptoCard : Claim7 := { stood := { row := machineAgainUptoRow, standIns := [], harness := (true, "5cb367284dba02c075a1e13994112dd51b3a01fd2c2d5fb5b65ca70d43a8aee9"), looks := false }, kinds := [], alts := [], laidByText := true, laidKinds := [.data, .data, .data, .data], laidTests := true, laidLooks := .later }
def MachineAgainUptoCardSaid : Prop := Claim7.holds Tryz.pinned (.plain (OpenSpec.upto machineAgainSpec)) machineAgainUptoCard

/-- THE SECOND FORM's CARD OF 'kindlinglaw06.MachineMoves'. -/
def machineMovesUptoCard : Claim7 := { stood := { row := machineMovesUptoRow, standIns := [], harness := (true, "5cb367284dba02c075a1e13994112dd51b3a01fd2c2d5fb5b65ca70d43a8aee9"), looks := false }, kinds := [], alts := [], laidByText := true, laidKinds := [.data, .data, .data, .data], laidTests := true, laidLooks := .later }
def MachineMovesUptoCardSaid : Prop := Claim7.holds Tryz.pinned (.plain (OpenSpec.upto machineMovesSpec)) machineMovesUptoCard

/-- THE SECOND FORM's CARD OF 'kindlinglaw06.MachineMore'. -/
def machineMoreUptoCard : Claim7 := { stood := { row := machineMoreUptoRow, standIns := [], harness := (true, "5cb367284dba02c075a1e13994112dd51b3a01fd2c2d5fb5b65ca70d43a8aee9"), looks := false }, kinds := [], alts := [], laidByText := true, laidKinds := [.data, .data, .data, .data], laidTests := true, laidLooks := .later }
def MachineMoreUptoCardSaid : Prop := Claim7.holds Tryz.pinned (.plain (OpenSpec.upto machineMoreSpec)) machineMoreUptoCard

/-- THE SECOND FORM's CARD OF 'kindlinglaw06.MachineStops'. -/
def machineStopsUptoCard : Claim7 := { stood := { row := machineStopsUptoRow, standIns := [], harness := (true, "5cb367284dba02c075a1e13994112dd51b3a01fd2c2d5fb5b65ca70d43a8aee9"), looks := false }, kinds := [], alts := [], laidByText := true, laidKinds := [.data, .data, .data, .data], laidTests := true, laidLooks := .later }
def MachineStopsUptoCardSaid : Prop := Claim7.holds Tryz.pinned (.plain (OpenSpec.upto machineStopsSpec)) machineStopsUptoCard

/-- THE SECOND FORM's CARD OF 'kindlinglaw06.MachineCopies'. -/
def machineCopiesUptoCard : Claim7 := { stood := { row := machineCopiesUptoRow, standIns := [], harness := (true, "5cb367284dba02c075a1e13994112dd51b3a01fd2c2d5fb5b65ca70d43a8aee9"), looks := false }, kinds := [], alts := [], laidByText := true, laidKinds := [.data, .data, .data, .data], laidTests := true, laidLooks := .later }
def MachineCopiesUptoCardSaid : Prop := Claim7.holds Tryz.pinned (.plain (OpenSpec.upto machineCopiesSpec)) machineCopiesUptoCard

/-- THE SECOND FORM's CARD OF 'kindlinglaw06.MachineClears'. -/
def machineClearsUptoCard : Claim7 := { stood := { row := machineClearsUptoRow, standIns := [], harness := (true, "5cb367284dba02c075a1e13994112dd51b3a01fd2c2d5fb5b65ca70d43a8aee9"), looks := false }, kinds := [], alts := [], laidByText := true, laidKinds := [.data, .data, .data, .data], laidTests := true, laidLooks := .later }
def MachineClearsUptoCardSaid : Prop := Claim7.holds Tryz.pinned (.plain (OpenSpec.upto machineClearsSpec)) machineClearsUptoCard
end Rows
end Go.Proofs.YtklcmdoadmcpfaaGreatDoor
