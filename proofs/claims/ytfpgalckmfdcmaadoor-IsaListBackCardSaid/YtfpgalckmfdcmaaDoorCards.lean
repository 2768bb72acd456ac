/-
  DERIVED. GIVEN WITH THE SEED: THE CARDS: each row of YtfpgalckmfdcmaaDoorRows.lean that lists a variable, with what it lists TIED to the program's text (the seventh form; the later family's looks); each row that meets fmt, with fmt's text TOLD by the authors' own Lean function (tested against real Go, not proved from fmt's source: count such statements apart). THE CARD IS WHAT COUNTS. Prove the row's statement (the work); the ties are given (YtfpgalckmfdcmaaDoorTie.lean); close each card by the builder's one call (the guide's Derived/Test/ToyasCard.lean, 'card_holds'). Laid BY PROGRAM, IN A SANDBOX (cutbox-door.mjs). By AI agents, Wed Nov 11 2026. No macro, syntax, notation, axiom, sorry.
-/
import Derived.Test.YtfpgalckmfdcmaaDoorRows
import GoSem.ClaimSeven
namespace Go.Proofs.YtfpgalckmfdcmaaDoor
namespace Rows

/-- THE TIED CARD OF 'kindlinglaw03.IsaTexts'. -/
def isaTextsCard : Claim7 := { stood := { row := isaTextsRow, standIns := [], harness := (true, "aa08fcac6af3fa5580310cfb546fef9100cc1ecbb16616f0a155c960d66e0a68"), looks := false }, kinds := [], alts := [], laidByText := true, laidKinds := [.data, .data, .data, .data, .data, .pinned], laidTests := true, laidLooks := .later }
def IsaTextsCardSaid : Prop := Claim7.holds Tryd.pinned (.plain (OpenSpec.ofChange isaTextsSpec)) isaTextsCard

/-- THE TIED CARD OF 'kindlinglaw03.IsaTextBack'. -/
def isaTextBackCard : Claim7 := { stood := { row := isaTextBackRow, standIns := [], harness := (true, "aa08fcac6af3fa5580310cfb546fef9100cc1ecbb16616f0a155c960d66e0a68"), looks := false }, kinds := [], alts := [], laidByText := true, laidKinds := [.data, .data, .data, .data, .data, .pinned], laidTests := true, laidLooks := .later }
def IsaTextBackCardSaid : Prop := Claim7.holds Tryd.pinned (.plain (OpenSpec.ofChange isaTextBackSpec)) isaTextBackCard

/-- THE TIED CARD OF 'kindlinglaw03.IsaLists'. -/
def isaListsCard : Claim7 := { stood := { row := isaListsRow, standIns := [], harness := (true, "aa08fcac6af3fa5580310cfb546fef9100cc1ecbb16616f0a155c960d66e0a68"), looks := false }, kinds := [], alts := [], laidByText := true, laidKinds := [.data, .data, .data, .data, .data, .pinned], laidTests := true, laidLooks := .later }
def IsaListsCardSaid : Prop := Claim7.holds Tryd.pinned (.plain (OpenSpec.ofChange isaListsSpec)) isaListsCard

/-- THE TIED CARD OF 'kindlinglaw03.IsaLines'. -/
def isaLinesCard : Claim7 := { stood := { row := isaLinesRow, standIns := [], harness := (true, "aa08fcac6af3fa5580310cfb546fef9100cc1ecbb16616f0a155c960d66e0a68"), looks := false }, kinds := [], alts := [], laidByText := true, laidKinds := [.data, .data, .data, .data], laidTests := true, laidLooks := .later }
def IsaLinesCardSaid : Prop := Claim7.holds Tryd.pinned (.plain (OpenSpec.ofChange isaLinesSpec)) isaLinesCard

/-- THE TIED CARD OF 'kindlinglaw03.IsaListBack'. -/
def isaListBackCard : Claim7 := { stood := { row := isaListBackRow, standIns := [], harness := (true, "aa08fcac6af3fa5580310cfb546fef9100cc1ecbb16616f0a155c960d66e0a68"), looks := false }, kinds := [], alts := [], laidByText := true, laidKinds := [.data, .data, .data, .data, .data, .pinned], laidTests := true, laidLooks := .later }
def IsaListBackCardSaid : Prop := Claim7.holds Tryd.pinned (.plain (OpenSpec.ofChange isaListBackSpec)) isaListBackCard

/-- THE SECOND FORM's CARD OF 'kindlinglaw03.IsaTexts'. -/
def isaTextsUptoCard : Claim7 := { stood := { row := isaTextsUptoRow, standIns := [], harness := (true, "aa08fcac6af3fa5580310cfb546fef9100cc1ecbb16616f0a155c960d66e0a68"), looks := false }, kinds := [], alts := [], laidByText := true, laidKinds := [.data, .data, .data, .data, .data, .pinned], laidTests := true, laidLooks := .later }
def IsaTextsUptoCardSaid : Prop := Claim7.holds Tryd.pinned (.plain (OpenSpec.upto isaTextsSpec)) isaTextsUptoCard

/-- THE SECOND FORM's CARD OF 'kindlinglaw03.IsaTextBack'. -/
def isaTextBackUptoCard : Claim7 := { stood := { row := isaTextBackUptoRow, standIns := [], harness := (true, "aa08fcac6af3fa5580310cfb546fef9100cc1ecbb16616f0a155c960d66e0a68"), looks := false }, kinds := [], alts := [], laidByText := true, laidKinds := [.data, .data, .data, .data, .data, .pinned], laidTests := true, laidLooks := .later }
def IsaTextBackUptoCardSaid : Prop := Claim7.holds Tryd.pinned (.plain (OpenSpec.upto isaTextBackSpec)) isaTextBackUptoCard

/-- THE SECOND FORM's CARD OF 'kindlinglaw03.IsaLists'. -/
def isaListsUptoCard : Claim7 := { stood := { row := isaListsUptoRow, standIns := [], harness := (true, "aa08fcac6af3fa5580310cfb546fef9100cc1ecbb16616f0a155c960d66e0a68"), looks := false }, kinds := [], alts := [], laidByText := true, laidKinds := [.data, .data, .data, .data, .data, .pinned], laidTests := true, laidLooks := .later }
def IsaListsUptoCardSaid : Prop := Claim7.holds Tryd.pinned (.plain (OpenSpec.upto isaListsSpec)) isaListsUptoCard

/-- THE SECOND FORM's CARD OF 'kindlinglaw03.IsaLines'. -/
def isaLinesUptoCard : Claim7 := { stood := { row := isaLinesUptoRow, standIns := [], harness := (true, "aa08fcac6af3fa5580310cfb546fef9100cc1ecbb16616f0a155c960d66e0a68"), looks := false }, kinds := [], alts := [], laidByText := true, laidKinds := [.data, .data, .data, .data], laidTests := true, laidLooks := .later }
def IsaLinesUptoCardSaid : Prop := Claim7.holds Tryd.pinned (.plain (OpenSpec.upto isaLinesSpec)) isaLinesUptoCard

/-- THE SECOND FORM's CARD OF 'kindlinglaw03.IsaListBack'. -/
def isaListBackUptoCard : Claim7 := { stood := { row := isaListBackUptoRow, standIns := [], harness := (true, "aa08fcac6af3fa5580310cfb546fef9100cc1ecbb16616f0a155c960d66e0a68"), looks := false }, kinds := [], alts := [], laidByText := true, laidKinds := [.data, .data, .data, .data, .data, .pinned], laidTests := true, laidLooks := .later }
def IsaListBackUptoCardSaid : Prop := Claim7.holds Tryd.pinned (.plain (OpenSpec.upto isaListBackSpec)) isaListBackUptoCard
end Rows
end Go.Proofs.YtfpgalckmfdcmaaDoor
