/-
  DERIVED. GIVEN WITH THE SEED: THE CARDS: each row of YtphabggmbdpibaaDoorRows.lean that lists a variable, with what it lists TIED to the program's text (the seventh form; the later family's looks); each row that meets fmt, with fmt's text TOLD by the authors' own Lean function (tested against real Go, not proved from fmt's source: count such statements apart). THE CARD IS WHAT COUNTS. Prove the row's statement (the work); the ties are given (YtphabggmbdpibaaDoorTie.lean); close each card by the builder's one call (the guide's Derived/Test/ToyasCard.lean, 'card_holds'). Laid BY PROGRAM, IN A SANDBOX (cutbox-door.mjs). By AI agents, Wed Nov 11 2026. No macro, syntax, notation, axiom, sorry.
-/
import Derived.Test.YtphabggmbdpibaaDoorRows
import GoSem.ClaimSeven
namespace Go.Proofs.YtphabggmbdpibaaDoor
namespace Rows

/-- THE TIED CARD OF 'laws.FnExactPowerOn'. -/
def fnExactPowerOnCard : Claim7 := { stood := { row := fnExactPowerOnRow, standIns := [], harness := (true, "461457aa774310055ad16807ae4405af72618a6c56c33c637a201ac12e2187e3"), looks := true }, kinds := [], alts := [], laidByText := true, laidKinds := [.data], laidTests := true, laidLooks := .later }
def FnExactPowerOnCardSaid : Prop := Claim7.holds Tryd.pinned (.plain (OpenSpec.ofChange fnExactPowerOnSpec)) fnExactPowerOnCard

/-- THE TIED CARD OF 'laws.FnBootsRise'. -/
def fnBootsRiseCard : Claim7 := { stood := { row := fnBootsRiseRow, standIns := [], harness := (true, "461457aa774310055ad16807ae4405af72618a6c56c33c637a201ac12e2187e3"), looks := true }, kinds := [], alts := [], laidByText := true, laidKinds := [.data], laidTests := true, laidLooks := .later }
def FnBootsRiseCardSaid : Prop := Claim7.holds Tryd.pinned (.plain (OpenSpec.ofChange fnBootsRiseSpec)) fnBootsRiseCard

/-- THE TIED CARD OF 'laws.FnFolded'. -/
def fnFoldedCard : Claim7 := { stood := { row := fnFoldedRow, standIns := [], harness := (true, "461457aa774310055ad16807ae4405af72618a6c56c33c637a201ac12e2187e3"), looks := true }, kinds := [], alts := [], laidByText := true, laidKinds := [.data], laidTests := true, laidLooks := .later }
def FnFoldedCardSaid : Prop := Claim7.holds Tryd.pinned (.plain (OpenSpec.ofChange fnFoldedSpec)) fnFoldedCard

/-- THE TIED CARD OF 'laws.FnComposites'. -/
def fnCompositesCard : Claim7 := { stood := { row := fnCompositesRow, standIns := [], harness := (true, "461457aa774310055ad16807ae4405af72618a6c56c33c637a201ac12e2187e3"), looks := true }, kinds := [], alts := [], laidByText := true, laidKinds := [.data, .data, .data, .data], laidTests := true, laidLooks := .later }
def FnCompositesCardSaid : Prop := Claim7.holds Tryd.pinned (.plain (OpenSpec.ofChange fnCompositesSpec)) fnCompositesCard

/-- THE TIED CARD OF 'laws.FnRenewed'. -/
def fnRenewedCard : Claim7 := { stood := { row := fnRenewedRow, standIns := [], harness := (true, "461457aa774310055ad16807ae4405af72618a6c56c33c637a201ac12e2187e3"), looks := true }, kinds := [], alts := [], laidByText := true, laidKinds := [.data, .data, .data, .data], laidTests := true, laidLooks := .later }
def FnRenewedCardSaid : Prop := Claim7.holds Tryd.pinned (.plain (OpenSpec.ofChange fnRenewedSpec)) fnRenewedCard

/-- THE TIED CARD OF 'laws.FnChained'. -/
def fnChainedCard : Claim7 := { stood := { row := fnChainedRow, standIns := [], harness := (true, "461457aa774310055ad16807ae4405af72618a6c56c33c637a201ac12e2187e3"), looks := true }, kinds := [], alts := [], laidByText := true, laidKinds := [.data, .data, .data, .data], laidTests := true, laidLooks := .later }
def FnChainedCardSaid : Prop := Claim7.holds Tryd.pinned (.plain (OpenSpec.ofChange fnChainedSpec)) fnChainedCard

/-- THE TIED CARD OF 'laws.FnExactVaultOk'. -/
def fnExactVaultOkCard : Claim7 := { stood := { row := fnExactVaultOkRow, standIns := [], harness := (true, "461457aa774310055ad16807ae4405af72618a6c56c33c637a201ac12e2187e3"), looks := true }, kinds := [], alts := [], laidByText := true, laidKinds := [.data], laidTests := true, laidLooks := .later }
def FnExactVaultOkCardSaid : Prop := Claim7.holds Tryd.pinned (.plain (OpenSpec.ofChange fnExactVaultOkSpec)) fnExactVaultOkCard

/-- THE SECOND FORM's CARD OF 'laws.FnExactPowerOn'. -/
def fnExactPowerOnUptoCard : Claim7 := { stood := { row := fnExactPowerOnUptoRow, standIns := [], harness := (true, "461457aa774310055ad16807ae4405af72618a6c56c33c637a201ac12e2187e3"), looks := true }, kinds := [], alts := [], laidByText := true, laidKinds := [.data], laidTests := true, laidLooks := .later }
def FnExactPowerOnUptoCardSaid : Prop := Claim7.holds Tryd.pinned (.plain (OpenSpec.upto fnExactPowerOnSpec)) fnExactPowerOnUptoCard

/-- THE SECOND FORM's CARD OF 'laws.FnBootsRise'. -/
def fnBootsRiseUptoCard : Claim7 := { stood := { row := fnBootsRiseUptoRow, standIns := [], harness := (true, "461457aa774310055ad16807ae4405af72618a6c56c33c637a201ac12e2187e3"), looks := true }, kinds := [], alts := [], laidByText := true, laidKinds := [.data], laidTests := true, laidLooks := .later }
def FnBootsRiseUptoCardSaid : Prop := Claim7.holds Tryd.pinned (.plain (OpenSpec.upto fnBootsRiseSpec)) fnBootsRiseUptoCard

/-- THE SECOND FORM's CARD OF 'laws.FnFolded'. -/
def fnFoldedUptoCard : Claim7 := { stood := { row := fnFoldedUptoRow, standIns := [], harness := (true, "461457aa774310055ad16807ae4405af72618a6c56c33c637a201ac12e2187e3"), looks := true }, kinds := [], alts := [], laidByText := true, laidKinds := [.data], laidTests := true, laidLooks := .later }
def FnFoldedUptoCardSaid : Prop := Claim7.holds Tryd.pinned (.plain (OpenSpec.upto fnFoldedSpec)) fnFoldedUptoCard

/-- THE SECOND FORM's CARD OF 'laws.FnComposites'. -/
def fnCompositesUptoCard : Claim7 := { stood := { row := fnCompositesUptoRow, standIns := [], harness := (true, "461457aa774310055ad16807ae4405af72618a6c56c33c637a201ac12e2187e3"), looks := true }, kinds := [], alts := [], laidByText := true, laidKinds := [.data, .data, .data, .data], laidTests := true, laidLooks := .later }
def FnCompositesUptoCardSaid : Prop := Claim7.holds Tryd.pinned (.plain (OpenSpec.upto fnCompositesSpec)) fnCompositesUptoCard

/-- THE SECOND FORM's CARD OF 'laws.FnRenewed'. -/
def fnRenewedUptoCard : Claim7 := { stood := { row := fnRenewedUptoRow, standIns := [], harness := (true, "461457aa774310055ad16807ae4405af72618a6c56c33c637a201ac12e2187e3"), looks := true }, kinds := [], alts := [], laidByText := true, laidKinds := [.data, .data, .data, .data], laidTests := true, laidLooks := .later }
def FnRenewedUptoCardSaid : Prop := Claim7.holds Tryd.pinned (.plain (OpenSpec.upto fnRenewedSpec)) fnRenewedUptoCard

/-- THE SECOND FORM's CARD OF 'laws.FnChained'. -/
def fnChainedUptoCard : Claim7 := { stood := { row := fnChainedUptoRow, standIns := [], harness := (true, "461457aa774310055ad16807ae4405af72618a6c56c33c637a201ac12e2187e3"), looks := true }, kinds := [], alts := [], laidByText := true, laidKinds := [.data, .data, .data, .data], laidTests := true, laidLooks := .later }
def FnChainedUptoCardSaid : Prop := Claim7.holds Tryd.pinned (.plain (OpenSpec.upto fnChainedSpec)) fnChainedUptoCard

/-- THE SECOND FORM's CARD OF 'laws.FnExactVaultOk'. -/
def fnExactVaultOkUptoCard : Claim7 := { stood := { row := fnExactVaultOkUptoRow, standIns := [], harness := (true, "461457aa774310055ad16807ae4405af72618a6c56c33c637a201ac12e2187e3"), looks := true }, kinds := [], alts := [], laidByText := true, laidKinds := [.data], laidTests := true, laidLooks := .later }
def FnExactVaultOkUptoCardSaid : Prop := Claim7.holds Tryd.pinned (.plain (OpenSpec.upto fnExactVaultOkSpec)) fnExactVaultOkUptoCard
end Rows
end Go.Proofs.YtphabggmbdpibaaDoor
