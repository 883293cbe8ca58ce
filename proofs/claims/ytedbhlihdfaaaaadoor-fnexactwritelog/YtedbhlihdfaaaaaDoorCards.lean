/-
  DERIVED. GIVEN WITH THE SEED: THE CARDS: each row of YtedbhlihdfaaaaaDoorRows.lean that lists a variable, with what it lists TIED to the program's text (the seventh form; the later family's looks); each row that meets fmt, with fmt's text TOLD by the authors' own Lean function (tested against real Go, not proved from fmt's source: count such statements apart). THE CARD IS WHAT COUNTS. Prove the row's statement (the work); the ties are given (YtedbhlihdfaaaaaDoorTie.lean); close each card by the builder's one call (the guide's Derived/Test/ToyasCard.lean, 'card_holds'). Laid BY PROGRAM, IN A SANDBOX (cutbox-door.mjs). By AI agents, Wed Nov 11 2026. No macro, syntax, notation, axiom, sorry.
-/
import Derived.Test.YtedbhlihdfaaaaaDoorRows
import GoSem.ClaimSeven
namespace Go.Proofs.YtedbhlihdfaaaaaDoor
namespace Rows

/-- THE TIED CARD OF 'laws.FnExactAskFor'. -/
def fnExactAskForCard : Claim7 := { stood := { row := fnExactAskForRow, standIns := [], harness := (true, "491f0db03e7e348462babc972e6277eeb6f0e4e2d6d4d080e3ddc2131d34c647"), looks := true }, kinds := [], alts := [], laidByText := true, laidKinds := [.data], laidTests := true, laidLooks := .later }
def FnExactAskForCardSaid : Prop := Claim7.holds Tryd.pinned (.plain (OpenSpec.ofChange fnExactAskForSpec)) fnExactAskForCard

/-- THE TIED CARD OF 'laws.FnExactWriteLog'. -/
def fnExactWriteLogCard : Claim7 := { stood := { row := fnExactWriteLogRow, standIns := [], harness := (true, "491f0db03e7e348462babc972e6277eeb6f0e4e2d6d4d080e3ddc2131d34c647"), looks := true }, kinds := [], alts := [], laidByText := true, laidKinds := [.data], laidTests := true, laidLooks := .later }
def FnExactWriteLogCardSaid : Prop := Claim7.holds Tryd.pinned (.plain (OpenSpec.ofChange fnExactWriteLogSpec)) fnExactWriteLogCard

/-- THE TIED CARD OF 'laws.FnExactPutSeal'. -/
def fnExactPutSealCard : Claim7 := { stood := { row := fnExactPutSealRow, standIns := [], harness := (true, "491f0db03e7e348462babc972e6277eeb6f0e4e2d6d4d080e3ddc2131d34c647"), looks := true }, kinds := [], alts := [], laidByText := true, laidKinds := [.data], laidTests := true, laidLooks := .later }
def FnExactPutSealCardSaid : Prop := Claim7.holds Tryd.pinned (.plain (OpenSpec.ofChange fnExactPutSealSpec)) fnExactPutSealCard

/-- THE TIED CARD OF 'laws.FnExactDemand'. -/
def fnExactDemandCard : Claim7 := { stood := { row := fnExactDemandRow, standIns := [], harness := (true, "491f0db03e7e348462babc972e6277eeb6f0e4e2d6d4d080e3ddc2131d34c647"), looks := true }, kinds := [], alts := [], laidByText := true, laidKinds := [.data, .data, .data, .data], laidTests := true, laidLooks := .later }
def FnExactDemandCardSaid : Prop := Claim7.holds Tryd.pinned (.plain (OpenSpec.ofChange fnExactDemandSpec)) fnExactDemandCard

/-- THE TIED CARD OF 'laws.FnExactPass'. -/
def fnExactPassCard : Claim7 := { stood := { row := fnExactPassRow, standIns := [], harness := (true, "491f0db03e7e348462babc972e6277eeb6f0e4e2d6d4d080e3ddc2131d34c647"), looks := true }, kinds := [], alts := [], laidByText := true, laidKinds := [.data, .data, .data, .data], laidTests := true, laidLooks := .later }
def FnExactPassCardSaid : Prop := Claim7.holds Tryd.pinned (.plain (OpenSpec.ofChange fnExactPassSpec)) fnExactPassCard

/-- THE TIED CARD OF 'laws.FnAsked'. -/
def fnAskedCard : Claim7 := { stood := { row := fnAskedRow, standIns := [], harness := (true, "491f0db03e7e348462babc972e6277eeb6f0e4e2d6d4d080e3ddc2131d34c647"), looks := true }, kinds := [], alts := [], laidByText := true, laidKinds := [.data], laidTests := true, laidLooks := .later }
def FnAskedCardSaid : Prop := Claim7.holds Tryd.pinned (.plain (OpenSpec.ofChange fnAskedSpec)) fnAskedCard

/-- THE TIED CARD OF 'laws.FnLogBack'. -/
def fnLogBackCard : Claim7 := { stood := { row := fnLogBackRow, standIns := [], harness := (true, "491f0db03e7e348462babc972e6277eeb6f0e4e2d6d4d080e3ddc2131d34c647"), looks := true }, kinds := [], alts := [], laidByText := true, laidKinds := [.data], laidTests := true, laidLooks := .later }
def FnLogBackCardSaid : Prop := Claim7.holds Tryd.pinned (.plain (OpenSpec.ofChange fnLogBackSpec)) fnLogBackCard

/-- THE TIED CARD OF 'laws.FnRenewed'. -/
def fnRenewedCard : Claim7 := { stood := { row := fnRenewedRow, standIns := [], harness := (true, "491f0db03e7e348462babc972e6277eeb6f0e4e2d6d4d080e3ddc2131d34c647"), looks := true }, kinds := [], alts := [], laidByText := true, laidKinds := [.data, .data, .data, .data], laidTests := true, laidLooks := .later }
def FnRenewedCardSaid : Prop := Claim7.holds Tryd.pinned (.plain (OpenSpec.ofChange fnRenewedSpec)) fnRenewedCard

/-- THE TIED CARD OF 'laws.FnChained'. -/
def fnChainedCard : Claim7 := { stood := { row := fnChainedRow, standIns := [], harness := (true, "491f0db03e7e348462babc972e6277eeb6f0e4e2d6d4d080e3ddc2131d34c647"), looks := true }, kinds := [], alts := [], laidByText := true, laidKinds := [.data, .data, .data, .data], laidTests := true, laidLooks := .later }
def FnChainedCardSaid : Prop := Claim7.holds Tryd.pinned (.plain (OpenSpec.ofChange fnChainedSpec)) fnChainedCard

/-- THE TIED CARD OF 'laws.FnComposites'. -/
def fnCompositesCard : Claim7 := { stood := { row := fnCompositesRow, standIns := [], harness := (true, "491f0db03e7e348462babc972e6277eeb6f0e4e2d6d4d080e3ddc2131d34c647"), looks := true }, kinds := [], alts := [], laidByText := true, laidKinds := [.data, .data, .data, .data], laidTests := true, laidLooks := .later }
def FnCompositesCardSaid : Prop := Claim7.holds Tryd.pinned (.plain (OpenSpec.ofChange fnCompositesSpec)) fnCompositesCard

/-- THE TIED CARD OF 'laws.FnSealedWhole'. -/
def fnSealedWholeCard : Claim7 := { stood := { row := fnSealedWholeRow, standIns := [], harness := (true, "491f0db03e7e348462babc972e6277eeb6f0e4e2d6d4d080e3ddc2131d34c647"), looks := true }, kinds := [], alts := [], laidByText := true, laidKinds := [.data], laidTests := true, laidLooks := .later }
def FnSealedWholeCardSaid : Prop := Claim7.holds Tryd.pinned (.plain (OpenSpec.ofChange fnSealedWholeSpec)) fnSealedWholeCard

/-- THE TIED CARD OF 'laws.FnExactMend'. -/
def fnExactMendCard : Claim7 := { stood := { row := fnExactMendRow, standIns := [], harness := (true, "491f0db03e7e348462babc972e6277eeb6f0e4e2d6d4d080e3ddc2131d34c647"), looks := true }, kinds := [], alts := [], laidByText := true, laidKinds := [.data], laidTests := true, laidLooks := .later }
def FnExactMendCardSaid : Prop := Claim7.holds Tryd.pinned (.plain (OpenSpec.ofChange fnExactMendSpec)) fnExactMendCard

/-- THE SECOND FORM's CARD OF 'laws.FnExactAskFor'. -/
def fnExactAskForUptoCard : Claim7 := { stood := { row := fnExactAskForUptoRow, standIns := [], harness := (true, "491f0db03e7e348462babc972e6277eeb6f0e4e2d6d4d080e3ddc2131d34c647"), looks := true }, kinds := [], alts := [], laidByText := true, laidKinds := [.data], laidTests := true, laidLooks := .later }
def FnExactAskForUptoCardSaid : Prop := Claim7.holds Tryd.pinned (.plain (OpenSpec.upto fnExactAskForSpec)) fnExactAskForUptoCard

/-- THE SECOND FORM's CARD OF 'laws.FnExactWriteLog'. -/
def fnExactWriteLogUptoCard : Claim7 := { stood := { row := fnExactWriteLogUptoRow, standIns := [], harness := (true, "491f0db03e7e348462babc972e6277eeb6f0e4e2d6d4d080e3ddc2131d34c647"), looks := true }, kinds := [], alts := [], laidByText := true, laidKinds := [.data], laidTests := true, laidLooks := .later }
def FnExactWriteLogUptoCardSaid : Prop := Claim7.holds Tryd.pinned (.plain (OpenSpec.upto fnExactWriteLogSpec)) fnExactWriteLogUptoCard

/-- THE SECOND FORM's CARD OF 'laws.FnExactPutSeal'. -/
def fnExactPutSealUptoCard : Claim7 := { stood := { row := fnExactPutSealUptoRow, standIns := [], harness := (true, "491f0db03e7e348462babc972e6277eeb6f0e4e2d6d4d080e3ddc2131d34c647"), looks := true }, kinds := [], alts := [], laidByText := true, laidKinds := [.data], laidTests := true, laidLooks := .later }
def FnExactPutSealUptoCardSaid : Prop := Claim7.holds Tryd.pinned (.plain (OpenSpec.upto fnExactPutSealSpec)) fnExactPutSealUptoCard

/-- THE SECOND FORM's CARD OF 'laws.FnExactDemand'. -/
def fnExactDemandUptoCard : Claim7 := { stood := { row := fnExactDemandUptoRow, standIns := [], harness := (true, "491f0db03e7e348462babc972e6277eeb6f0e4e2d6d4d080e3ddc2131d34c647"), looks := true }, kinds := [], alts := [], laidByText := true, laidKinds := [.data, .data, .data, .data], laidTests := true, laidLooks := .later }
def FnExactDemandUptoCardSaid : Prop := Claim7.holds Tryd.pinned (.plain (OpenSpec.upto fnExactDemandSpec)) fnExactDemandUptoCard

/-- THE SECOND FORM's CARD OF 'laws.FnExactPass'. -/
def fnExactPassUptoCard : Claim7 := { stood := { row := fnExactPassUptoRow, standIns := [], harness := (true, "491f0db03e7e348462babc972e6277eeb6f0e4e2d6d4d080e3ddc2131d34c647"), looks := true }, kinds := [], alts := [], laidByText := true, laidKinds := [.data, .data, .data, .data], laidTests := true, laidLooks := .later }
def FnExactPassUptoCardSaid : Prop := Claim7.holds Tryd.pinned (.plain (OpenSpec.upto fnExactPassSpec)) fnExactPassUptoCard

/-- THE SECOND FORM's CARD OF 'laws.FnAsked'. -/
def fnAskedUptoCard : Claim7 := { stood := { row := fnAskedUptoRow, standIns := [], harness := (true, "491f0db03e7e348462babc972e6277eeb6f0e4e2d6d4d080e3ddc2131d34c647"), looks := true }, kinds := [], alts := [], laidByText := true, laidKinds := [.data], laidTests := true, laidLooks := .later }
def FnAskedUptoCardSaid : Prop := Claim7.holds Tryd.pinned (.plain (OpenSpec.upto fnAskedSpec)) fnAskedUptoCard

/-- THE SECOND FORM's CARD OF 'laws.FnLogBack'. -/
def fnLogBackUptoCard : Claim7 := { stood := { row := fnLogBackUptoRow, standIns := [], harness := (true, "491f0db03e7e348462babc972e6277eeb6f0e4e2d6d4d080e3ddc2131d34c647"), looks := true }, kinds := [], alts := [], laidByText := true, laidKinds := [.data], laidTests := true, laidLooks := .later }
def FnLogBackUptoCardSaid : Prop := Claim7.holds Tryd.pinned (.plain (OpenSpec.upto fnLogBackSpec)) fnLogBackUptoCard

/-- THE SECOND FORM's CARD OF 'laws.FnRenewed'. -/
def fnRenewedUptoCard : Claim7 := { stood := { row := fnRenewedUptoRow, standIns := [], harness := (true, "491f0db03e7e348462babc972e6277eeb6f0e4e2d6d4d080e3ddc2131d34c647"), looks := true }, kinds := [], alts := [], laidByText := true, laidKinds := [.data, .data, .data, .data], laidTests := true, laidLooks := .later }
def FnRenewedUptoCardSaid : Prop := Claim7.holds Tryd.pinned (.plain (OpenSpec.upto fnRenewedSpec)) fnRenewedUptoCard

/-- THE SECOND FORM's CARD OF 'laws.FnChained'. -/
def fnChainedUptoCard : Claim7 := { stood := { row := fnChainedUptoRow, standIns := [], harness := (true, "491f0db03e7e348462babc972e6277eeb6f0e4e2d6d4d080e3ddc2131d34c647"), looks := true }, kinds := [], alts := [], laidByText := true, laidKinds := [.data, .data, .data, .data], laidTests := true, laidLooks := .later }
def FnChainedUptoCardSaid : Prop := Claim7.holds Tryd.pinned (.plain (OpenSpec.upto fnChainedSpec)) fnChainedUptoCard

/-- THE SECOND FORM's CARD OF 'laws.FnComposites'. -/
def fnCompositesUptoCard : Claim7 := { stood := { row := fnCompositesUptoRow, standIns := [], harness := (true, "491f0db03e7e348462babc972e6277eeb6f0e4e2d6d4d080e3ddc2131d34c647"), looks := true }, kinds := [], alts := [], laidByText := true, laidKinds := [.data, .data, .data, .data], laidTests := true, laidLooks := .later }
def FnCompositesUptoCardSaid : Prop := Claim7.holds Tryd.pinned (.plain (OpenSpec.upto fnCompositesSpec)) fnCompositesUptoCard

/-- THE SECOND FORM's CARD OF 'laws.FnSealedWhole'. -/
def fnSealedWholeUptoCard : Claim7 := { stood := { row := fnSealedWholeUptoRow, standIns := [], harness := (true, "491f0db03e7e348462babc972e6277eeb6f0e4e2d6d4d080e3ddc2131d34c647"), looks := true }, kinds := [], alts := [], laidByText := true, laidKinds := [.data], laidTests := true, laidLooks := .later }
def FnSealedWholeUptoCardSaid : Prop := Claim7.holds Tryd.pinned (.plain (OpenSpec.upto fnSealedWholeSpec)) fnSealedWholeUptoCard

/-- THE SECOND FORM's CARD OF 'laws.FnExactMend'. -/
def fnExactMendUptoCard : Claim7 := { stood := { row := fnExactMendUptoRow, standIns := [], harness := (true, "491f0db03e7e348462babc972e6277eeb6f0e4e2d6d4d080e3ddc2131d34c647"), looks := true }, kinds := [], alts := [], laidByText := true, laidKinds := [.data], laidTests := true, laidLooks := .later }
def FnExactMendUptoCardSaid : Prop := Claim7.holds Tryd.pinned (.plain (OpenSpec.upto fnExactMendSpec)) fnExactMendUptoCard
end Rows
end Go.Proofs.YtedbhlihdfaaaaaDoor
