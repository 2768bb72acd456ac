/-
  DERIVED. GIVEN WITH THE SEED: THE CARDS: each row of YtlakfnlkiebpdaaDoorRows.lean that lists a variable, with what it lists TIED to the program's text (the seventh form; the later family's looks); each row that meets fmt, with fmt's text TOLD by the authors' own Lean function (tested against real Go, not proved from fmt's source: count such statements apart). THE CARD IS WHAT COUNTS. Prove the row's statement (the work); the ties are given (YtlakfnlkiebpdaaDoorTie.lean); close each card by the builder's one call (the guide's Derived/Test/ToyasCard.lean, 'card_holds'). Laid BY PROGRAM, IN A SANDBOX (cutbox-door.mjs). By AI agents, Wed Nov 11 2026. No macro, syntax, notation, axiom, sorry.
-/
import Derived.Test.YtlakfnlkiebpdaaDoorRows
import GoSem.ClaimSeven
namespace Go.Proofs.YtlakfnlkiebpdaaDoor
namespace Rows

/-- THE TIED CARD OF 'kindlinglaw05.RtsTexts'. -/
def rtsTextsCard : Claim7 := { stood := { row := rtsTextsRow, standIns := [], harness := (true, "f194fd941475576227a7f36d95511e1f10cdd4466d1c2c4b22d6c774c30861ae"), looks := false }, kinds := [], alts := [], laidByText := true, laidKinds := [.data, .data, .data], laidTests := true, laidLooks := .later }
def RtsTextsCardSaid : Prop := Claim7.holds Tryd.pinned (.plain (OpenSpec.ofChange rtsTextsSpec)) rtsTextsCard

/-- THE TIED CARD OF 'kindlinglaw05.RtsTextBack'. -/
def rtsTextBackCard : Claim7 := { stood := { row := rtsTextBackRow, standIns := [], harness := (true, "f194fd941475576227a7f36d95511e1f10cdd4466d1c2c4b22d6c774c30861ae"), looks := false }, kinds := [], alts := [], laidByText := true, laidKinds := [.data, .data, .data], laidTests := true, laidLooks := .later }
def RtsTextBackCardSaid : Prop := Claim7.holds Tryd.pinned (.plain (OpenSpec.ofChange rtsTextBackSpec)) rtsTextBackCard

/-- THE TIED CARD OF 'kindlinglaw05.RtsGets'. -/
def rtsGetsCard : Claim7 := { stood := { row := rtsGetsRow, standIns := [], harness := (true, "f194fd941475576227a7f36d95511e1f10cdd4466d1c2c4b22d6c774c30861ae"), looks := false }, kinds := [], alts := [], laidByText := true, laidKinds := [.data, .data, .data], laidTests := true, laidLooks := .later }
def RtsGetsCardSaid : Prop := Claim7.holds Tryd.pinned (.plain (OpenSpec.ofChange rtsGetsSpec)) rtsGetsCard

/-- THE TIED CARD OF 'kindlinglaw05.RtsSame'. -/
def rtsSameCard : Claim7 := { stood := { row := rtsSameRow, standIns := [], harness := (true, "f194fd941475576227a7f36d95511e1f10cdd4466d1c2c4b22d6c774c30861ae"), looks := false }, kinds := [], alts := [], laidByText := true, laidKinds := [.data, .data, .data], laidTests := true, laidLooks := .later }
def RtsSameCardSaid : Prop := Claim7.holds Tryd.pinned (.plain (OpenSpec.ofChange rtsSameSpec)) rtsSameCard

/-- THE TIED CARD OF 'kindlinglaw05.RtsTurns'. -/
def rtsTurnsCard : Claim7 := { stood := { row := rtsTurnsRow, standIns := [], harness := (true, "f194fd941475576227a7f36d95511e1f10cdd4466d1c2c4b22d6c774c30861ae"), looks := false }, kinds := [], alts := [], laidByText := true, laidKinds := [.data, .data, .data], laidTests := true, laidLooks := .later }
def RtsTurnsCardSaid : Prop := Claim7.holds Tryd.pinned (.plain (OpenSpec.ofChange rtsTurnsSpec)) rtsTurnsCard

/-- THE TIED CARD OF 'kindlinglaw05.RtsMoves'. -/
def rtsMovesCard : Claim7 := { stood := { row := rtsMovesRow, standIns := [], harness := (true, "f194fd941475576227a7f36d95511e1f10cdd4466d1c2c4b22d6c774c30861ae"), looks := false }, kinds := [], alts := [], laidByText := true, laidKinds := [.data, .data, .data], laidTests := true, laidLooks := .later }
def RtsMovesCardSaid : Prop := Claim7.holds Tryd.pinned (.plain (OpenSpec.ofChange rtsMovesSpec)) rtsMovesCard

/-- THE TIED CARD OF 'kindlinglaw05.RtsShort'. -/
def rtsShortCard : Claim7 := { stood := { row := rtsShortRow, standIns := [], harness := (true, "f194fd941475576227a7f36d95511e1f10cdd4466d1c2c4b22d6c774c30861ae"), looks := false }, kinds := [], alts := [], laidByText := true, laidKinds := [.data, .data, .data], laidTests := true, laidLooks := .later }
def RtsShortCardSaid : Prop := Claim7.holds Tryd.pinned (.plain (OpenSpec.ofChange rtsShortSpec)) rtsShortCard

/-- THE TIED CARD OF 'kindlinglaw05.RtsQuotes'. -/
def rtsQuotesCard : Claim7 := { stood := { row := rtsQuotesRow, standIns := [], harness := (true, "f194fd941475576227a7f36d95511e1f10cdd4466d1c2c4b22d6c774c30861ae"), looks := false }, kinds := [], alts := [], laidByText := true, laidKinds := [.data, .data, .data], laidTests := true, laidLooks := .later }
def RtsQuotesCardSaid : Prop := Claim7.holds Tryd.pinned (.plain (OpenSpec.ofChange rtsQuotesSpec)) rtsQuotesCard

/-- THE TIED CARD OF 'kindlinglaw05.RtsMakers'. -/
def rtsMakersCard : Claim7 := { stood := { row := rtsMakersRow, standIns := [], harness := (true, "f194fd941475576227a7f36d95511e1f10cdd4466d1c2c4b22d6c774c30861ae"), looks := false }, kinds := [], alts := [], laidByText := true, laidKinds := [.data, .data, .data], laidTests := true, laidLooks := .later }
def RtsMakersCardSaid : Prop := Claim7.holds Tryd.pinned (.plain (OpenSpec.ofChange rtsMakersSpec)) rtsMakersCard

/-- THE TIED CARD OF 'kindlinglaw05.RtsNil'. -/
def rtsNilCard : Claim7 := { stood := { row := rtsNilRow, standIns := [], harness := (true, "f194fd941475576227a7f36d95511e1f10cdd4466d1c2c4b22d6c774c30861ae"), looks := false }, kinds := [], alts := [], laidByText := true, laidKinds := [.data, .data, .data], laidTests := true, laidLooks := .later }
def RtsNilCardSaid : Prop := Claim7.holds Tryd.pinned (.plain (OpenSpec.ofChange rtsNilSpec)) rtsNilCard

/-- THE SECOND FORM's CARD OF 'kindlinglaw05.RtsTexts'. -/
def rtsTextsUptoCard : Claim7 := { stood := { row := rtsTextsUptoRow, standIns := [], harness := (true, "f194fd941475576227a7f36d95511e1f10cdd4466d1c2c4b22d6c774c30861ae"), looks := false }, kinds := [], alts := [], laidByText := true, laidKinds := [.data, .data, .data], laidTests := true, laidLooks := .later }
def RtsTextsUptoCardSaid : Prop := Claim7.holds Tryd.pinned (.plain (OpenSpec.upto rtsTextsSpec)) rtsTextsUptoCard

/-- THE SECOND FORM's CARD OF 'kindlinglaw05.RtsTextBack'. -/
def rtsTextBackUptoCard : Claim7 := { stood := { row := rtsTextBackUptoRow, standIns := [], harness := (true, "f194fd941475576227a7f36d95511e1f10cdd4466d1c2c4b22d6c774c30861ae"), looks := false }, kinds := [], alts := [], laidByText := true, laidKinds := [.data, .data, .data], laidTests := true, laidLooks := .later }
def RtsTextBackUptoCardSaid : Prop := Claim7.holds Tryd.pinned (.plain (OpenSpec.upto rtsTextBackSpec)) rtsTextBackUptoCard

/-- THE SECOND FORM's CARD OF 'kindlinglaw05.RtsGets'. -/
def rtsGetsUptoCard : Claim7 := { stood := { row := rtsGetsUptoRow, standIns := [], harness := (true, "f194fd941475576227a7f36d95511e1f10cdd4466d1c2c4b22d6c774c30861ae"), looks := false }, kinds := [], alts := [], laidByText := true, laidKinds := [.data, .data, .data], laidTests := true, laidLooks := .later }
def RtsGetsUptoCardSaid : Prop := Claim7.holds Tryd.pinned (.plain (OpenSpec.upto rtsGetsSpec)) rtsGetsUptoCard

/-- THE SECOND FORM's CARD OF 'kindlinglaw05.RtsSame'. -/
def rtsSameUptoCard : Claim7 := { stood := { row := rtsSameUptoRow, standIns := [], harness := (true, "f194fd941475576227a7f36d95511e1f10cdd4466d1c2c4b22d6c774c30861ae"), looks := false }, kinds := [], alts := [], laidByText := true, laidKinds := [.data, .data, .data], laidTests := true, laidLooks := .later }
def RtsSameUptoCardSaid : Prop := Claim7.holds Tryd.pinned (.plain (OpenSpec.upto rtsSameSpec)) rtsSameUptoCard

/-- THE SECOND FORM's CARD OF 'kindlinglaw05.RtsTurns'. -/
def rtsTurnsUptoCard : Claim7 := { stood := { row := rtsTurnsUptoRow, standIns := [], harness := (true, "f194fd941475576227a7f36d95511e1f10cdd4466d1c2c4b22d6c774c30861ae"), looks := false }, kinds := [], alts := [], laidByText := true, laidKinds := [.data, .data, .data], laidTests := true, laidLooks := .later }
def RtsTurnsUptoCardSaid : Prop := Claim7.holds Tryd.pinned (.plain (OpenSpec.upto rtsTurnsSpec)) rtsTurnsUptoCard

/-- THE SECOND FORM's CARD OF 'kindlinglaw05.RtsMoves'. -/
def rtsMovesUptoCard : Claim7 := { stood := { row := rtsMovesUptoRow, standIns := [], harness := (true, "f194fd941475576227a7f36d95511e1f10cdd4466d1c2c4b22d6c774c30861ae"), looks := false }, kinds := [], alts := [], laidByText := true, laidKinds := [.data, .data, .data], laidTests := true, laidLooks := .later }
def RtsMovesUptoCardSaid : Prop := Claim7.holds Tryd.pinned (.plain (OpenSpec.upto rtsMovesSpec)) rtsMovesUptoCard

/-- THE SECOND FORM's CARD OF 'kindlinglaw05.RtsShort'. -/
def rtsShortUptoCard : Claim7 := { stood := { row := rtsShortUptoRow, standIns := [], harness := (true, "f194fd941475576227a7f36d95511e1f10cdd4466d1c2c4b22d6c774c30861ae"), looks := false }, kinds := [], alts := [], laidByText := true, laidKinds := [.data, .data, .data], laidTests := true, laidLooks := .later }
def RtsShortUptoCardSaid : Prop := Claim7.holds Tryd.pinned (.plain (OpenSpec.upto rtsShortSpec)) rtsShortUptoCard

/-- THE SECOND FORM's CARD OF 'kindlinglaw05.RtsQuotes'. -/
def rtsQuotesUptoCard : Claim7 := { stood := { row := rtsQuotesUptoRow, standIns := [], harness := (true, "f194fd941475576227a7f36d95511e1f10cdd4466d1c2c4b22d6c774c30861ae"), looks := false }, kinds := [], alts := [], laidByText := true, laidKinds := [.data, .data, .data], laidTests := true, laidLooks := .later }
def RtsQuotesUptoCardSaid : Prop := Claim7.holds Tryd.pinned (.plain (OpenSpec.upto rtsQuotesSpec)) rtsQuotesUptoCard

/-- THE SECOND FORM's CARD OF 'kindlinglaw05.RtsMakers'. -/
def rtsMakersUptoCard : Claim7 := { stood := { row := rtsMakersUptoRow, standIns := [], harness := (true, "f194fd941475576227a7f36d95511e1f10cdd4466d1c2c4b22d6c774c30861ae"), looks := false }, kinds := [], alts := [], laidByText := true, laidKinds := [.data, .data, .data], laidTests := true, laidLooks := .later }
def RtsMakersUptoCardSaid : Prop := Claim7.holds Tryd.pinned (.plain (OpenSpec.upto rtsMakersSpec)) rtsMakersUptoCard

/-- THE SECOND FORM's CARD OF 'kindlinglaw05.RtsNil'. -/
def rtsNilUptoCard : Claim7 := { stood := { row := rtsNilUptoRow, standIns := [], harness := (true, "f194fd941475576227a7f36d95511e1f10cdd4466d1c2c4b22d6c774c30861ae"), looks := false }, kinds := [], alts := [], laidByText := true, laidKinds := [.data, .data, .data], laidTests := true, laidLooks := .later }
def RtsNilUptoCardSaid : Prop := Claim7.holds Tryd.pinned (.plain (OpenSpec.upto rtsNilSpec)) rtsNilUptoCard
end Rows
end Go.Proofs.YtlakfnlkiebpdaaDoor
