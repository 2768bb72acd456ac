/-
  DERIVED. GIVEN WITH THE SEED: THE CARDS: each row of YtladgbfmfhmpiaaDoorRows.lean that lists a variable, with what it lists TIED to the program's text (the seventh form; the later family's looks); each row that meets fmt, with fmt's text TOLD by the authors' own Lean function (tested against real Go, not proved from fmt's source: count such statements apart). THE CARD IS WHAT COUNTS. Prove the row's statement (the work); the ties are given (YtladgbfmfhmpiaaDoorTie.lean); close each card by the builder's one call (the guide's Derived/Test/ToyasCard.lean, 'card_holds'). Laid BY PROGRAM, IN A SANDBOX (cutbox-door.mjs). By AI agents, Wed Nov 11 2026. No macro, syntax, notation, axiom, sorry.
-/
import Derived.Test.YtladgbfmfhmpiaaDoorRows
import GoSem.ClaimSeven
namespace Go.Proofs.YtladgbfmfhmpiaaDoor
namespace Rows

/-- THE TIED CARD OF 'kindlinglaw01.NumAdds'. -/
def numAddsCard : Claim7 := { stood := { row := numAddsRow, standIns := [], harness := (true, "bdfeeaf10b6debdbba53c125f3e3d88d7de68eabfe58e26404f5391acf92ed68"), looks := false }, kinds := [], alts := [], laidByText := true, laidKinds := [.data, .data, .data], laidTests := true, laidLooks := .later }
def NumAddsCardSaid : Prop := Claim7.holds Tryd.pinned (.plain (OpenSpec.ofChange numAddsSpec)) numAddsCard

/-- THE TIED CARD OF 'kindlinglaw01.NumDivides'. -/
def numDividesCard : Claim7 := { stood := { row := numDividesRow, standIns := [], harness := (true, "bdfeeaf10b6debdbba53c125f3e3d88d7de68eabfe58e26404f5391acf92ed68"), looks := false }, kinds := [], alts := [], laidByText := true, laidKinds := [.data, .data, .data], laidTests := true, laidLooks := .later }
def NumDividesCardSaid : Prop := Claim7.holds Tryd.pinned (.plain (OpenSpec.ofChange numDividesSpec)) numDividesCard

/-- THE TIED CARD OF 'kindlinglaw01.NumRing'. -/
def numRingCard : Claim7 := { stood := { row := numRingRow, standIns := [], harness := (true, "bdfeeaf10b6debdbba53c125f3e3d88d7de68eabfe58e26404f5391acf92ed68"), looks := false }, kinds := [], alts := [], laidByText := true, laidKinds := [.data, .data, .data], laidTests := true, laidLooks := .later }
def NumRingCardSaid : Prop := Claim7.holds Tryd.pinned (.plain (OpenSpec.ofChange numRingSpec)) numRingCard

/-- THE TIED CARD OF 'kindlinglaw01.NumMeets'. -/
def numMeetsCard : Claim7 := { stood := { row := numMeetsRow, standIns := [], harness := (true, "bdfeeaf10b6debdbba53c125f3e3d88d7de68eabfe58e26404f5391acf92ed68"), looks := false }, kinds := [], alts := [], laidByText := true, laidKinds := [.data, .data, .data], laidTests := true, laidLooks := .later }
def NumMeetsCardSaid : Prop := Claim7.holds Tryd.pinned (.plain (OpenSpec.ofChange numMeetsSpec)) numMeetsCard

/-- THE TIED CARD OF 'kindlinglaw01.NumWraps'. -/
def numWrapsCard : Claim7 := { stood := { row := numWrapsRow, standIns := [], harness := (true, "bdfeeaf10b6debdbba53c125f3e3d88d7de68eabfe58e26404f5391acf92ed68"), looks := false }, kinds := [], alts := [], laidByText := true, laidKinds := [.data, .data, .data], laidTests := true, laidLooks := .later }
def NumWrapsCardSaid : Prop := Claim7.holds Tryd.pinned (.plain (OpenSpec.ofChange numWrapsSpec)) numWrapsCard

/-- THE TIED CARD OF 'kindlinglaw01.NumTexts'. -/
def numTextsCard : Claim7 := { stood := { row := numTextsRow, standIns := [], harness := (true, "bdfeeaf10b6debdbba53c125f3e3d88d7de68eabfe58e26404f5391acf92ed68"), looks := false }, kinds := [], alts := [], laidByText := true, laidKinds := [.data, .data, .data], laidTests := true, laidLooks := .later }
def NumTextsCardSaid : Prop := Claim7.holds Tryd.pinned (.plain (OpenSpec.ofChange numTextsSpec)) numTextsCard

/-- THE TIED CARD OF 'kindlinglaw01.NumBack'. -/
def numBackCard : Claim7 := { stood := { row := numBackRow, standIns := [], harness := (true, "bdfeeaf10b6debdbba53c125f3e3d88d7de68eabfe58e26404f5391acf92ed68"), looks := false }, kinds := [], alts := [], laidByText := true, laidKinds := [.data, .data, .data], laidTests := true, laidLooks := .later }
def NumBackCardSaid : Prop := Claim7.holds Tryd.pinned (.plain (OpenSpec.ofChange numBackSpec)) numBackCard

/-- THE TIED CARD OF 'kindlinglaw01.NumWords'. -/
def numWordsCard : Claim7 := { stood := { row := numWordsRow, standIns := [], harness := (true, "bdfeeaf10b6debdbba53c125f3e3d88d7de68eabfe58e26404f5391acf92ed68"), looks := false }, kinds := [], alts := [], laidByText := true, laidKinds := [.data, .data, .data], laidTests := true, laidLooks := .later }
def NumWordsCardSaid : Prop := Claim7.holds Tryd.pinned (.plain (OpenSpec.ofChange numWordsSpec)) numWordsCard

/-- THE TIED CARD OF 'kindlinglaw01.NumApart'. -/
def numApartCard : Claim7 := { stood := { row := numApartRow, standIns := [], harness := (true, "bdfeeaf10b6debdbba53c125f3e3d88d7de68eabfe58e26404f5391acf92ed68"), looks := false }, kinds := [], alts := [], laidByText := true, laidKinds := [.data, .data, .data], laidTests := true, laidLooks := .later }
def NumApartCardSaid : Prop := Claim7.holds Tryd.pinned (.plain (OpenSpec.ofChange numApartSpec)) numApartCard

/-- THE TIED CARD OF 'kindlinglaw01.NumPacks'. -/
def numPacksCard : Claim7 := { stood := { row := numPacksRow, standIns := [], harness := (true, "bdfeeaf10b6debdbba53c125f3e3d88d7de68eabfe58e26404f5391acf92ed68"), looks := false }, kinds := [], alts := [], laidByText := true, laidKinds := [.data, .data, .data], laidTests := true, laidLooks := .later }
def NumPacksCardSaid : Prop := Claim7.holds Tryd.pinned (.plain (OpenSpec.ofChange numPacksSpec)) numPacksCard

/-- THE TIED CARD OF 'kindlinglaw01.NumPackBack'. -/
def numPackBackCard : Claim7 := { stood := { row := numPackBackRow, standIns := [], harness := (true, "bdfeeaf10b6debdbba53c125f3e3d88d7de68eabfe58e26404f5391acf92ed68"), looks := false }, kinds := [], alts := [], laidByText := true, laidKinds := [.data, .data, .data], laidTests := true, laidLooks := .later }
def NumPackBackCardSaid : Prop := Claim7.holds Tryd.pinned (.plain (OpenSpec.ofChange numPackBackSpec)) numPackBackCard

/-- THE SECOND FORM's CARD OF 'kindlinglaw01.NumAdds'. -/
def numAddsUptoCard : Claim7 := { stood := { row := numAddsUptoRow, standIns := [], harness := (true, "bdfeeaf10b6debdbba53c125f3e3d88d7de68eabfe58e26404f5391acf92ed68"), looks := false }, kinds := [], alts := [], laidByText := true, laidKinds := [.data, .data, .data], laidTests := true, laidLooks := .later }
def NumAddsUptoCardSaid : Prop := Claim7.holds Tryd.pinned (.plain (OpenSpec.upto numAddsSpec)) numAddsUptoCard

/-- THE SECOND FORM's CARD OF 'kindlinglaw01.NumDivides'. -/
def numDividesUptoCard : Claim7 := { stood := { row := numDividesUptoRow, standIns := [], harness := (true, "bdfeeaf10b6debdbba53c125f3e3d88d7de68eabfe58e26404f5391acf92ed68"), looks := false }, kinds := [], alts := [], laidByText := true, laidKinds := [.data, .data, .data], laidTests := true, laidLooks := .later }
def NumDividesUptoCardSaid : Prop := Claim7.holds Tryd.pinned (.plain (OpenSpec.upto numDividesSpec)) numDividesUptoCard

/-- THE SECOND FORM's CARD OF 'kindlinglaw01.NumRing'. -/
def numRingUptoCard : Claim7 := { stood := { row := numRingUptoRow, standIns := [], harness := (true, "bdfeeaf10b6debdbba53c125f3e3d88d7de68eabfe58e26404f5391acf92ed68"), looks := false }, kinds := [], alts := [], laidByText := true, laidKinds := [.data, .data, .data], laidTests := true, laidLooks := .later }
def NumRingUptoCardSaid : Prop := Claim7.holds Tryd.pinned (.plain (OpenSpec.upto numRingSpec)) numRingUptoCard

/-- THE SECOND FORM's CARD OF 'kindlinglaw01.NumMeets'. -/
def numMeetsUptoCard : Claim7 := { stood := { row := numMeetsUptoRow, standIns := [], harness := (true, "bdfeeaf10b6debdbba53c125f3e3d88d7de68eabfe58e26404f5391acf92ed68"), looks := false }, kinds := [], alts := [], laidByText := true, laidKinds := [.data, .data, .data], laidTests := true, laidLooks := .later }
def NumMeetsUptoCardSaid : Prop := Claim7.holds Tryd.pinned (.plain (OpenSpec.upto numMeetsSpec)) numMeetsUptoCard

/-- THE SECOND FORM's CARD OF 'kindlinglaw01.NumWraps'. -/
def numWrapsUptoCard : Claim7 := { stood := { row := numWrapsUptoRow, standIns := [], harness := (true, "bdfeeaf10b6debdbba53c125f3e3d88d7de68eabfe58e26404f5391acf92ed68"), looks := false }, kinds := [], alts := [], laidByText := true, laidKinds := [.data, .data, .data], laidTests := true, laidLooks := .later }
def NumWrapsUptoCardSaid : Prop := Claim7.holds Tryd.pinned (.plain (OpenSpec.upto numWrapsSpec)) numWrapsUptoCard

/-- THE SECOND FORM's CARD OF 'kindlinglaw01.NumTexts'. -/
def numTextsUptoCard : Claim7 := { stood := { row := numTextsUptoRow, standIns := [], harness := (true, "bdfeeaf10b6debdbba53c125f3e3d88d7de68eabfe58e26404f5391acf92ed68"), looks := false }, kinds := [], alts := [], laidByText := true, laidKinds := [.data, .data, .data], laidTests := true, laidLooks := .later }
def NumTextsUptoCardSaid : Prop := Claim7.holds Tryd.pinned (.plain (OpenSpec.upto numTextsSpec)) numTextsUptoCard

/-- THE SECOND FORM's CARD OF 'kindlinglaw01.NumBack'. -/
def numBackUptoCard : Claim7 := { stood := { row := numBackUptoRow, standIns := [], harness := (true, "bdfeeaf10b6debdbba53c125f3e3d88d7de68eabfe58e26404f5391acf92ed68"), looks := false }, kinds := [], alts := [], laidByText := true, laidKinds := [.data, .data, .data], laidTests := true, laidLooks := .later }
def NumBackUptoCardSaid : Prop := Claim7.holds Tryd.pinned (.plain (OpenSpec.upto numBackSpec)) numBackUptoCard

/-- THE SECOND FORM's CARD OF 'kindlinglaw01.NumWords'. -/
def numWordsUptoCard : Claim7 := { stood := { row := numWordsUptoRow, standIns := [], harness := (true, "bdfeeaf10b6debdbba53c125f3e3d88d7de68eabfe58e26404f5391acf92ed68"), looks := false }, kinds := [], alts := [], laidByText := true, laidKinds := [.data, .data, .data], laidTests := true, laidLooks := .later }
def NumWordsUptoCardSaid : Prop := Claim7.holds Tryd.pinned (.plain (OpenSpec.upto numWordsSpec)) numWordsUptoCard

/-- THE SECOND FORM's CARD OF 'kindlinglaw01.NumApart'. -/
def numApartUptoCard : Claim7 := { stood := { row := numApartUptoRow, standIns := [], harness := (true, "bdfeeaf10b6debdbba53c125f3e3d88d7de68eabfe58e26404f5391acf92ed68"), looks := false }, kinds := [], alts := [], laidByText := true, laidKinds := [.data, .data, .data], laidTests := true, laidLooks := .later }
def NumApartUptoCardSaid : Prop := Claim7.holds Tryd.pinned (.plain (OpenSpec.upto numApartSpec)) numApartUptoCard

/-- THE SECOND FORM's CARD OF 'kindlinglaw01.NumPacks'. -/
def numPacksUptoCard : Claim7 := { stood := { row := numPacksUptoRow, standIns := [], harness := (true, "bdfeeaf10b6debdbba53c125f3e3d88d7de68eabfe58e26404f5391acf92ed68"), looks := false }, kinds := [], alts := [], laidByText := true, laidKinds := [.data, .data, .data], laidTests := true, laidLooks := .later }
def NumPacksUptoCardSaid : Prop := Claim7.holds Tryd.pinned (.plain (OpenSpec.upto numPacksSpec)) numPacksUptoCard

/-- THE SECOND FORM's CARD OF 'kindlinglaw01.NumPackBack'. -/
def numPackBackUptoCard : Claim7 := { stood := { row := numPackBackUptoRow, standIns := [], harness := (true, "bdfeeaf10b6debdbba53c125f3e3d88d7de68eabfe58e26404f5391acf92ed68"), looks := false }, kinds := [], alts := [], laidByText := true, laidKinds := [.data, .data, .data], laidTests := true, laidLooks := .later }
def NumPackBackUptoCardSaid : Prop := Claim7.holds Tryd.pinned (.plain (OpenSpec.upto numPackBackSpec)) numPackBackUptoCard
end Rows
end Go.Proofs.YtladgbfmfhmpiaaDoor
