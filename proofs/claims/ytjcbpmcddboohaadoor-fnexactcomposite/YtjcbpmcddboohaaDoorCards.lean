/-
  DERIVED. GIVEN WITH THE SEED: THE CARDS: each row of YtjcbpmcddboohaaDoorRows.lean that lists a variable, with what it lists TIED to the program's text (the seventh form; the later family's looks); each row that meets fmt, with fmt's text TOLD by the authors' own Lean function (tested against real Go, not proved from fmt's source: count such statements apart). THE CARD IS WHAT COUNTS. Prove the row's statement (the work); the ties are given (YtjcbpmcddboohaaDoorTie.lean); close each card by the builder's one call (the guide's Derived/Test/ToyasCard.lean, 'card_holds'). Laid BY PROGRAM, IN A SANDBOX (cutbox-door.mjs). By AI agents, Wed Nov 11 2026. No macro, syntax, notation, axiom, sorry.
-/
import Derived.Test.YtjcbpmcddboohaaDoorRows
import GoSem.ClaimSeven
namespace Go.Proofs.YtjcbpmcddboohaaDoor
namespace Rows

/-- THE TIED CARD OF 'laws.FnExactRootOk'. -/
def fnExactRootOkCard : Claim7 := { stood := { row := fnExactRootOkRow, standIns := [], harness := (true, "08b4448839289d9d1e4a9f26cce2699a8b439ec97cf5ed039fd489b8de98933e"), looks := true }, kinds := [], alts := [], laidByText := true, laidKinds := [.data], laidTests := true, laidLooks := .later }
def FnExactRootOkCardSaid : Prop := Claim7.holds Tryd.pinned (.plain (OpenSpec.ofChange fnExactRootOkSpec)) fnExactRootOkCard

/-- THE TIED CARD OF 'laws.FnExactRootNew'. -/
def fnExactRootNewCard : Claim7 := { stood := { row := fnExactRootNewRow, standIns := [], harness := (true, "08b4448839289d9d1e4a9f26cce2699a8b439ec97cf5ed039fd489b8de98933e"), looks := true }, kinds := [], alts := [], laidByText := true, laidKinds := [.data], laidTests := true, laidLooks := .later }
def FnExactRootNewCardSaid : Prop := Claim7.holds Tryd.pinned (.plain (OpenSpec.ofChange fnExactRootNewSpec)) fnExactRootNewCard

/-- THE TIED CARD OF 'laws.FnExactBootsOf'. -/
def fnExactBootsOfCard : Claim7 := { stood := { row := fnExactBootsOfRow, standIns := [], harness := (true, "08b4448839289d9d1e4a9f26cce2699a8b439ec97cf5ed039fd489b8de98933e"), looks := true }, kinds := [], alts := [], laidByText := true, laidKinds := [.data], laidTests := true, laidLooks := .later }
def FnExactBootsOfCardSaid : Prop := Claim7.holds Tryd.pinned (.plain (OpenSpec.ofChange fnExactBootsOfSpec)) fnExactBootsOfCard

/-- THE TIED CARD OF 'laws.FnExactQuoteBy'. -/
def fnExactQuoteByCard : Claim7 := { stood := { row := fnExactQuoteByRow, standIns := [], harness := (true, "08b4448839289d9d1e4a9f26cce2699a8b439ec97cf5ed039fd489b8de98933e"), looks := true }, kinds := [], alts := [], laidByText := true, laidKinds := [.data, .data, .data, .data], laidTests := true, laidLooks := .later }
def FnExactQuoteByCardSaid : Prop := Claim7.holds Tryd.pinned (.plain (OpenSpec.ofChange fnExactQuoteBySpec)) fnExactQuoteByCard

/-- THE TIED CARD OF 'laws.FnExactComposite'. -/
def fnExactCompositeCard : Claim7 := { stood := { row := fnExactCompositeRow, standIns := [], harness := (true, "08b4448839289d9d1e4a9f26cce2699a8b439ec97cf5ed039fd489b8de98933e"), looks := true }, kinds := [], alts := [], laidByText := true, laidKinds := [.data, .data, .data, .data], laidTests := true, laidLooks := .later }
def FnExactCompositeCardSaid : Prop := Claim7.holds Tryd.pinned (.plain (OpenSpec.ofChange fnExactCompositeSpec)) fnExactCompositeCard

/-- THE TIED CARD OF 'laws.FnExactShown'. -/
def fnExactShownCard : Claim7 := { stood := { row := fnExactShownRow, standIns := [], harness := (true, "08b4448839289d9d1e4a9f26cce2699a8b439ec97cf5ed039fd489b8de98933e"), looks := true }, kinds := [], alts := [], laidByText := true, laidKinds := [.data], laidTests := true, laidLooks := .later }
def FnExactShownCardSaid : Prop := Claim7.holds Tryd.pinned (.plain (OpenSpec.ofChange fnExactShownSpec)) fnExactShownCard

/-- THE TIED CARD OF 'laws.FnFolded'. -/
def fnFoldedCard : Claim7 := { stood := { row := fnFoldedRow, standIns := [], harness := (true, "08b4448839289d9d1e4a9f26cce2699a8b439ec97cf5ed039fd489b8de98933e"), looks := true }, kinds := [], alts := [], laidByText := true, laidKinds := [.data], laidTests := true, laidLooks := .later }
def FnFoldedCardSaid : Prop := Claim7.holds Tryd.pinned (.plain (OpenSpec.ofChange fnFoldedSpec)) fnFoldedCard

/-- THE TIED CARD OF 'laws.FnComposites'. -/
def fnCompositesCard : Claim7 := { stood := { row := fnCompositesRow, standIns := [], harness := (true, "08b4448839289d9d1e4a9f26cce2699a8b439ec97cf5ed039fd489b8de98933e"), looks := true }, kinds := [], alts := [], laidByText := true, laidKinds := [.data, .data, .data, .data], laidTests := true, laidLooks := .later }
def FnCompositesCardSaid : Prop := Claim7.holds Tryd.pinned (.plain (OpenSpec.ofChange fnCompositesSpec)) fnCompositesCard

/-- THE TIED CARD OF 'laws.FnExactPowerOn'. -/
def fnExactPowerOnCard : Claim7 := { stood := { row := fnExactPowerOnRow, standIns := [], harness := (true, "08b4448839289d9d1e4a9f26cce2699a8b439ec97cf5ed039fd489b8de98933e"), looks := true }, kinds := [], alts := [], laidByText := true, laidKinds := [.data], laidTests := true, laidLooks := .later }
def FnExactPowerOnCardSaid : Prop := Claim7.holds Tryd.pinned (.plain (OpenSpec.ofChange fnExactPowerOnSpec)) fnExactPowerOnCard

/-- THE TIED CARD OF 'laws.FnBootsRise'. -/
def fnBootsRiseCard : Claim7 := { stood := { row := fnBootsRiseRow, standIns := [], harness := (true, "08b4448839289d9d1e4a9f26cce2699a8b439ec97cf5ed039fd489b8de98933e"), looks := true }, kinds := [], alts := [], laidByText := true, laidKinds := [.data], laidTests := true, laidLooks := .later }
def FnBootsRiseCardSaid : Prop := Claim7.holds Tryd.pinned (.plain (OpenSpec.ofChange fnBootsRiseSpec)) fnBootsRiseCard

/-- THE TIED CARD OF 'laws.FnExactWriteLog'. -/
def fnExactWriteLogCard : Claim7 := { stood := { row := fnExactWriteLogRow, standIns := [], harness := (true, "08b4448839289d9d1e4a9f26cce2699a8b439ec97cf5ed039fd489b8de98933e"), looks := true }, kinds := [], alts := [], laidByText := true, laidKinds := [.data], laidTests := true, laidLooks := .later }
def FnExactWriteLogCardSaid : Prop := Claim7.holds Tryd.pinned (.plain (OpenSpec.ofChange fnExactWriteLogSpec)) fnExactWriteLogCard

/-- THE TIED CARD OF 'laws.FnLogBack'. -/
def fnLogBackCard : Claim7 := { stood := { row := fnLogBackRow, standIns := [], harness := (true, "08b4448839289d9d1e4a9f26cce2699a8b439ec97cf5ed039fd489b8de98933e"), looks := true }, kinds := [], alts := [], laidByText := true, laidKinds := [.data], laidTests := true, laidLooks := .later }
def FnLogBackCardSaid : Prop := Claim7.holds Tryd.pinned (.plain (OpenSpec.ofChange fnLogBackSpec)) fnLogBackCard

/-- THE SECOND FORM's CARD OF 'laws.FnExactRootOk'. -/
def fnExactRootOkUptoCard : Claim7 := { stood := { row := fnExactRootOkUptoRow, standIns := [], harness := (true, "08b4448839289d9d1e4a9f26cce2699a8b439ec97cf5ed039fd489b8de98933e"), looks := true }, kinds := [], alts := [], laidByText := true, laidKinds := [.data], laidTests := true, laidLooks := .later }
def FnExactRootOkUptoCardSaid : Prop := Claim7.holds Tryd.pinned (.plain (OpenSpec.upto fnExactRootOkSpec)) fnExactRootOkUptoCard

/-- THE SECOND FORM's CARD OF 'laws.FnExactRootNew'. -/
def fnExactRootNewUptoCard : Claim7 := { stood := { row := fnExactRootNewUptoRow, standIns := [], harness := (true, "08b4448839289d9d1e4a9f26cce2699a8b439ec97cf5ed039fd489b8de98933e"), looks := true }, kinds := [], alts := [], laidByText := true, laidKinds := [.data], laidTests := true, laidLooks := .later }
def FnExactRootNewUptoCardSaid : Prop := Claim7.holds Tryd.pinned (.plain (OpenSpec.upto fnExactRootNewSpec)) fnExactRootNewUptoCard

/-- THE SECOND FORM's CARD OF 'laws.FnExactBootsOf'. -/
def fnExactBootsOfUptoCard : Claim7 := { stood := { row := fnExactBootsOfUptoRow, standIns := [], harness := (true, "08b4448839289d9d1e4a9f26cce2699a8b439ec97cf5ed039fd489b8de98933e"), looks := true }, kinds := [], alts := [], laidByText := true, laidKinds := [.data], laidTests := true, laidLooks := .later }
def FnExactBootsOfUptoCardSaid : Prop := Claim7.holds Tryd.pinned (.plain (OpenSpec.upto fnExactBootsOfSpec)) fnExactBootsOfUptoCard

/-- THE SECOND FORM's CARD OF 'laws.FnExactQuoteBy'. -/
def fnExactQuoteByUptoCard : Claim7 := { stood := { row := fnExactQuoteByUptoRow, standIns := [], harness := (true, "08b4448839289d9d1e4a9f26cce2699a8b439ec97cf5ed039fd489b8de98933e"), looks := true }, kinds := [], alts := [], laidByText := true, laidKinds := [.data, .data, .data, .data], laidTests := true, laidLooks := .later }
def FnExactQuoteByUptoCardSaid : Prop := Claim7.holds Tryd.pinned (.plain (OpenSpec.upto fnExactQuoteBySpec)) fnExactQuoteByUptoCard

/-- THE SECOND FORM's CARD OF 'laws.FnExactComposite'. -/
def fnExactCompositeUptoCard : Claim7 := { stood := { row := fnExactCompositeUptoRow, standIns := [], harness := (true, "08b4448839289d9d1e4a9f26cce2699a8b439ec97cf5ed039fd489b8de98933e"), looks := true }, kinds := [], alts := [], laidByText := true, laidKinds := [.data, .data, .data, .data], laidTests := true, laidLooks := .later }
def FnExactCompositeUptoCardSaid : Prop := Claim7.holds Tryd.pinned (.plain (OpenSpec.upto fnExactCompositeSpec)) fnExactCompositeUptoCard

/-- THE SECOND FORM's CARD OF 'laws.FnExactShown'. -/
def fnExactShownUptoCard : Claim7 := { stood := { row := fnExactShownUptoRow, standIns := [], harness := (true, "08b4448839289d9d1e4a9f26cce2699a8b439ec97cf5ed039fd489b8de98933e"), looks := true }, kinds := [], alts := [], laidByText := true, laidKinds := [.data], laidTests := true, laidLooks := .later }
def FnExactShownUptoCardSaid : Prop := Claim7.holds Tryd.pinned (.plain (OpenSpec.upto fnExactShownSpec)) fnExactShownUptoCard

/-- THE SECOND FORM's CARD OF 'laws.FnFolded'. -/
def fnFoldedUptoCard : Claim7 := { stood := { row := fnFoldedUptoRow, standIns := [], harness := (true, "08b4448839289d9d1e4a9f26cce2699a8b439ec97cf5ed039fd489b8de98933e"), looks := true }, kinds := [], alts := [], laidByText := true, laidKinds := [.data], laidTests := true, laidLooks := .later }
def FnFoldedUptoCardSaid : Prop := Claim7.holds Tryd.pinned (.plain (OpenSpec.upto fnFoldedSpec)) fnFoldedUptoCard

/-- THE SECOND FORM's CARD OF 'laws.FnComposites'. -/
def fnCompositesUptoCard : Claim7 := { stood := { row := fnCompositesUptoRow, standIns := [], harness := (true, "08b4448839289d9d1e4a9f26cce2699a8b439ec97cf5ed039fd489b8de98933e"), looks := true }, kinds := [], alts := [], laidByText := true, laidKinds := [.data, .data, .data, .data], laidTests := true, laidLooks := .later }
def FnCompositesUptoCardSaid : Prop := Claim7.holds Tryd.pinned (.plain (OpenSpec.upto fnCompositesSpec)) fnCompositesUptoCard

/-- THE SECOND FORM's CARD OF 'laws.FnExactPowerOn'. -/
def fnExactPowerOnUptoCard : Claim7 := { stood := { row := fnExactPowerOnUptoRow, standIns := [], harness := (true, "08b4448839289d9d1e4a9f26cce2699a8b439ec97cf5ed039fd489b8de98933e"), looks := true }, kinds := [], alts := [], laidByText := true, laidKinds := [.data], laidTests := true, laidLooks := .later }
def FnExactPowerOnUptoCardSaid : Prop := Claim7.holds Tryd.pinned (.plain (OpenSpec.upto fnExactPowerOnSpec)) fnExactPowerOnUptoCard

/-- THE SECOND FORM's CARD OF 'laws.FnBootsRise'. -/
def fnBootsRiseUptoCard : Claim7 := { stood := { row := fnBootsRiseUptoRow, standIns := [], harness := (true, "08b4448839289d9d1e4a9f26cce2699a8b439ec97cf5ed039fd489b8de98933e"), looks := true }, kinds := [], alts := [], laidByText := true, laidKinds := [.data], laidTests := true, laidLooks := .later }
def FnBootsRiseUptoCardSaid : Prop := Claim7.holds Tryd.pinned (.plain (OpenSpec.upto fnBootsRiseSpec)) fnBootsRiseUptoCard

/-- THE SECOND FORM's CARD OF 'laws.FnExactWriteLog'. -/
def fnExactWriteLogUptoCard : Claim7 := { stood := { row := fnExactWriteLogUptoRow, standIns := [], harness := (true, "08b4448839289d9d1e4a9f26cce2699a8b439ec97cf5ed039fd489b8de98933e"), looks := true }, kinds := [], alts := [], laidByText := true, laidKinds := [.data], laidTests := true, laidLooks := .later }
def FnExactWriteLogUptoCardSaid : Prop := Claim7.holds Tryd.pinned (.plain (OpenSpec.upto fnExactWriteLogSpec)) fnExactWriteLogUptoCard

/-- THE SECOND FORM's CARD OF 'laws.FnLogBack'. -/
def fnLogBackUptoCard : Claim7 := { stood := { row := fnLogBackUptoRow, standIns := [], harness := (true, "08b4448839289d9d1e4a9f26cce2699a8b439ec97cf5ed039fd489b8de98933e"), looks := true }, kinds := [], alts := [], laidByText := true, laidKinds := [.data], laidTests := true, laidLooks := .later }
def FnLogBackUptoCardSaid : Prop := Claim7.holds Tryd.pinned (.plain (OpenSpec.upto fnLogBackSpec)) fnLogBackUptoCard
end Rows
end Go.Proofs.YtjcbpmcddboohaaDoor
