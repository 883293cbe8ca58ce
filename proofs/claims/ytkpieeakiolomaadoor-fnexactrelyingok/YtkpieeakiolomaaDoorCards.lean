/-
  DERIVED. GIVEN WITH THE SEED: THE CARDS: each row of YtkpieeakiolomaaDoorRows.lean that lists a variable, with what it lists TIED to the program's text (the seventh form; the later family's looks); each row that meets fmt, with fmt's text TOLD by the authors' own Lean function (tested against real Go, not proved from fmt's source: count such statements apart). THE CARD IS WHAT COUNTS. Prove the row's statement (the work); the ties are given (YtkpieeakiolomaaDoorTie.lean); close each card by the builder's one call (the guide's Derived/Test/ToyasCard.lean, 'card_holds'). Laid BY PROGRAM, IN A SANDBOX (cutbox-door.mjs). By AI agents, Wed Nov 11 2026. No macro, syntax, notation, axiom, sorry.
-/
import Derived.Test.YtkpieeakiolomaaDoorRows
import GoSem.ClaimSeven
namespace Go.Proofs.YtkpieeakiolomaaDoor
namespace Rows

/-- THE TIED CARD OF 'laws.FnAsked'. -/
def fnAskedCard : Claim7 := { stood := { row := fnAskedRow, standIns := [], harness := (true, "23e195965ac8e65eccf1bd03d485d82124c1e9961ac85315426cc6653f9ae710"), looks := true }, kinds := [], alts := [], laidByText := true, laidKinds := [.data], laidTests := true, laidLooks := .later }
def FnAskedCardSaid : Prop := Claim7.holds Tryd.pinned (.plain (OpenSpec.ofChange fnAskedSpec)) fnAskedCard

/-- THE TIED CARD OF 'laws.FnExactVerifierOk'. -/
def fnExactVerifierOkCard : Claim7 := { stood := { row := fnExactVerifierOkRow, standIns := [], harness := (true, "23e195965ac8e65eccf1bd03d485d82124c1e9961ac85315426cc6653f9ae710"), looks := true }, kinds := [], alts := [], laidByText := true, laidKinds := [.data, .data, .data, .data], laidTests := true, laidLooks := .later }
def FnExactVerifierOkCardSaid : Prop := Claim7.holds Tryd.pinned (.plain (OpenSpec.ofChange fnExactVerifierOkSpec)) fnExactVerifierOkCard

/-- THE TIED CARD OF 'laws.FnExactTokenBy'. -/
def fnExactTokenByCard : Claim7 := { stood := { row := fnExactTokenByRow, standIns := [], harness := (true, "23e195965ac8e65eccf1bd03d485d82124c1e9961ac85315426cc6653f9ae710"), looks := true }, kinds := [], alts := [], laidByText := true, laidKinds := [.data, .data, .data, .data], laidTests := true, laidLooks := .later }
def FnExactTokenByCardSaid : Prop := Claim7.holds Tryd.pinned (.plain (OpenSpec.ofChange fnExactTokenBySpec)) fnExactTokenByCard

/-- THE TIED CARD OF 'laws.FnExactRelyingOk'. -/
def fnExactRelyingOkCard : Claim7 := { stood := { row := fnExactRelyingOkRow, standIns := [], harness := (true, "23e195965ac8e65eccf1bd03d485d82124c1e9961ac85315426cc6653f9ae710"), looks := true }, kinds := [], alts := [], laidByText := true, laidKinds := [.data], laidTests := true, laidLooks := .later }
def FnExactRelyingOkCardSaid : Prop := Claim7.holds Tryd.pinned (.plain (OpenSpec.ofChange fnExactRelyingOkSpec)) fnExactRelyingOkCard

/-- THE TIED CARD OF 'laws.FnExactAskFor'. -/
def fnExactAskForCard : Claim7 := { stood := { row := fnExactAskForRow, standIns := [], harness := (true, "23e195965ac8e65eccf1bd03d485d82124c1e9961ac85315426cc6653f9ae710"), looks := true }, kinds := [], alts := [], laidByText := true, laidKinds := [.data], laidTests := true, laidLooks := .later }
def FnExactAskForCardSaid : Prop := Claim7.holds Tryd.pinned (.plain (OpenSpec.ofChange fnExactAskForSpec)) fnExactAskForCard

/-- THE TIED CARD OF 'laws.FnExactTold'. -/
def fnExactToldCard : Claim7 := { stood := { row := fnExactToldRow, standIns := [], harness := (true, "23e195965ac8e65eccf1bd03d485d82124c1e9961ac85315426cc6653f9ae710"), looks := true }, kinds := [], alts := [], laidByText := true, laidKinds := [.data], laidTests := true, laidLooks := .later }
def FnExactToldCardSaid : Prop := Claim7.holds Tryd.pinned (.plain (OpenSpec.ofChange fnExactToldSpec)) fnExactToldCard

/-- THE TIED CARD OF 'laws.FnComposites'. -/
def fnCompositesCard : Claim7 := { stood := { row := fnCompositesRow, standIns := [], harness := (true, "23e195965ac8e65eccf1bd03d485d82124c1e9961ac85315426cc6653f9ae710"), looks := true }, kinds := [], alts := [], laidByText := true, laidKinds := [.data, .data, .data, .data], laidTests := true, laidLooks := .later }
def FnCompositesCardSaid : Prop := Claim7.holds Tryd.pinned (.plain (OpenSpec.ofChange fnCompositesSpec)) fnCompositesCard

/-- THE TIED CARD OF 'laws.FnRenewed'. -/
def fnRenewedCard : Claim7 := { stood := { row := fnRenewedRow, standIns := [], harness := (true, "23e195965ac8e65eccf1bd03d485d82124c1e9961ac85315426cc6653f9ae710"), looks := true }, kinds := [], alts := [], laidByText := true, laidKinds := [.data, .data, .data, .data], laidTests := true, laidLooks := .later }
def FnRenewedCardSaid : Prop := Claim7.holds Tryd.pinned (.plain (OpenSpec.ofChange fnRenewedSpec)) fnRenewedCard

/-- THE SECOND FORM's CARD OF 'laws.FnAsked'. -/
def fnAskedUptoCard : Claim7 := { stood := { row := fnAskedUptoRow, standIns := [], harness := (true, "23e195965ac8e65eccf1bd03d485d82124c1e9961ac85315426cc6653f9ae710"), looks := true }, kinds := [], alts := [], laidByText := true, laidKinds := [.data], laidTests := true, laidLooks := .later }
def FnAskedUptoCardSaid : Prop := Claim7.holds Tryd.pinned (.plain (OpenSpec.upto fnAskedSpec)) fnAskedUptoCard

/-- THE SECOND FORM's CARD OF 'laws.FnExactVerifierOk'. -/
def fnExactVerifierOkUptoCard : Claim7 := { stood := { row := fnExactVerifierOkUptoRow, standIns := [], harness := (true, "23e195965ac8e65eccf1bd03d485d82124c1e9961ac85315426cc6653f9ae710"), looks := true }, kinds := [], alts := [], laidByText := true, laidKinds := [.data, .data, .data, .data], laidTests := true, laidLooks := .later }
def FnExactVerifierOkUptoCardSaid : Prop := Claim7.holds Tryd.pinned (.plain (OpenSpec.upto fnExactVerifierOkSpec)) fnExactVerifierOkUptoCard

/-- THE SECOND FORM's CARD OF 'laws.FnExactTokenBy'. -/
def fnExactTokenByUptoCard : Claim7 := { stood := { row := fnExactTokenByUptoRow, standIns := [], harness := (true, "23e195965ac8e65eccf1bd03d485d82124c1e9961ac85315426cc6653f9ae710"), looks := true }, kinds := [], alts := [], laidByText := true, laidKinds := [.data, .data, .data, .data], laidTests := true, laidLooks := .later }
def FnExactTokenByUptoCardSaid : Prop := Claim7.holds Tryd.pinned (.plain (OpenSpec.upto fnExactTokenBySpec)) fnExactTokenByUptoCard

/-- THE SECOND FORM's CARD OF 'laws.FnExactRelyingOk'. -/
def fnExactRelyingOkUptoCard : Claim7 := { stood := { row := fnExactRelyingOkUptoRow, standIns := [], harness := (true, "23e195965ac8e65eccf1bd03d485d82124c1e9961ac85315426cc6653f9ae710"), looks := true }, kinds := [], alts := [], laidByText := true, laidKinds := [.data], laidTests := true, laidLooks := .later }
def FnExactRelyingOkUptoCardSaid : Prop := Claim7.holds Tryd.pinned (.plain (OpenSpec.upto fnExactRelyingOkSpec)) fnExactRelyingOkUptoCard

/-- THE SECOND FORM's CARD OF 'laws.FnExactAskFor'. -/
def fnExactAskForUptoCard : Claim7 := { stood := { row := fnExactAskForUptoRow, standIns := [], harness := (true, "23e195965ac8e65eccf1bd03d485d82124c1e9961ac85315426cc6653f9ae710"), looks := true }, kinds := [], alts := [], laidByText := true, laidKinds := [.data], laidTests := true, laidLooks := .later }
def FnExactAskForUptoCardSaid : Prop := Claim7.holds Tryd.pinned (.plain (OpenSpec.upto fnExactAskForSpec)) fnExactAskForUptoCard

/-- THE SECOND FORM's CARD OF 'laws.FnExactTold'. -/
def fnExactToldUptoCard : Claim7 := { stood := { row := fnExactToldUptoRow, standIns := [], harness := (true, "23e195965ac8e65eccf1bd03d485d82124c1e9961ac85315426cc6653f9ae710"), looks := true }, kinds := [], alts := [], laidByText := true, laidKinds := [.data], laidTests := true, laidLooks := .later }
def FnExactToldUptoCardSaid : Prop := Claim7.holds Tryd.pinned (.plain (OpenSpec.upto fnExactToldSpec)) fnExactToldUptoCard

/-- THE SECOND FORM's CARD OF 'laws.FnComposites'. -/
def fnCompositesUptoCard : Claim7 := { stood := { row := fnCompositesUptoRow, standIns := [], harness := (true, "23e195965ac8e65eccf1bd03d485d82124c1e9961ac85315426cc6653f9ae710"), looks := true }, kinds := [], alts := [], laidByText := true, laidKinds := [.data, .data, .data, .data], laidTests := true, laidLooks := .later }
def FnCompositesUptoCardSaid : Prop := Claim7.holds Tryd.pinned (.plain (OpenSpec.upto fnCompositesSpec)) fnCompositesUptoCard

/-- THE SECOND FORM's CARD OF 'laws.FnRenewed'. -/
def fnRenewedUptoCard : Claim7 := { stood := { row := fnRenewedUptoRow, standIns := [], harness := (true, "23e195965ac8e65eccf1bd03d485d82124c1e9961ac85315426cc6653f9ae710"), looks := true }, kinds := [], alts := [], laidByText := true, laidKinds := [.data, .data, .data, .data], laidTests := true, laidLooks := .later }
def FnRenewedUptoCardSaid : Prop := Claim7.holds Tryd.pinned (.plain (OpenSpec.upto fnRenewedSpec)) fnRenewedUptoCard
end Rows
end Go.Proofs.YtkpieeakiolomaaDoor
