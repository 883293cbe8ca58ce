/-
  DERIVED. GIVEN WITH THE SEED: THE CARDS: each row of YtponjghppnpnhaaDoorRows.lean that lists a variable, with what it lists TIED to the program's text (the seventh form; the later family's looks); each row that meets fmt, with fmt's text TOLD by the authors' own Lean function (tested against real Go, not proved from fmt's source: count such statements apart). THE CARD IS WHAT COUNTS. Prove the row's statement (the work); the ties are given (YtponjghppnpnhaaDoorTie.lean); close each card by the builder's one call (the guide's Derived/Test/ToyasCard.lean, 'card_holds'). Laid BY PROGRAM, IN A SANDBOX (cutbox-door.mjs). By AI agents, Wed Nov 11 2026. No macro, syntax, notation, axiom, sorry.
-/
import Derived.Test.YtponjghppnpnhaaDoorRows
import GoSem.ClaimSeven
namespace Go.Proofs.YtponjghppnpnhaaDoor
namespace Rows

/-- THE TIED CARD OF 'laws.FnExactComposite'. -/
def fnExactCompositeCard : Claim7 := { stood := { row := fnExactCompositeRow, standIns := [], harness := (true, "9630e21f7f59134e9dfc7a9032082210fac43267b75f52f1b8ef671e91f460e1"), looks := true }, kinds := [], alts := [], laidByText := true, laidKinds := [.data, .data, .data, .data], laidTests := true, laidLooks := .later }
def FnExactCompositeCardSaid : Prop := Claim7.holds Tryd.pinned (.plain (OpenSpec.ofChange fnExactCompositeSpec)) fnExactCompositeCard

/-- THE TIED CARD OF 'laws.FnExactCheckCert'. -/
def fnExactCheckCertCard : Claim7 := { stood := { row := fnExactCheckCertRow, standIns := [], harness := (true, "9630e21f7f59134e9dfc7a9032082210fac43267b75f52f1b8ef671e91f460e1"), looks := true }, kinds := [], alts := [], laidByText := true, laidKinds := [.data, .data, .data, .data], laidTests := true, laidLooks := .later }
def FnExactCheckCertCardSaid : Prop := Claim7.holds Tryd.pinned (.plain (OpenSpec.ofChange fnExactCheckCertSpec)) fnExactCheckCertCard

/-- THE TIED CARD OF 'laws.FnExactCheckChain'. -/
def fnExactCheckChainCard : Claim7 := { stood := { row := fnExactCheckChainRow, standIns := [], harness := (true, "9630e21f7f59134e9dfc7a9032082210fac43267b75f52f1b8ef671e91f460e1"), looks := true }, kinds := [], alts := [], laidByText := true, laidKinds := [.data, .data, .data, .data], laidTests := true, laidLooks := .later }
def FnExactCheckChainCardSaid : Prop := Claim7.holds Tryd.pinned (.plain (OpenSpec.ofChange fnExactCheckChainSpec)) fnExactCheckChainCard

/-- THE TIED CARD OF 'laws.FnExactJudge'. -/
def fnExactJudgeCard : Claim7 := { stood := { row := fnExactJudgeRow, standIns := [], harness := (true, "9630e21f7f59134e9dfc7a9032082210fac43267b75f52f1b8ef671e91f460e1"), looks := true }, kinds := [], alts := [], laidByText := true, laidKinds := [.data, .data, .data, .data], laidTests := true, laidLooks := .later }
def FnExactJudgeCardSaid : Prop := Claim7.holds Tryd.pinned (.plain (OpenSpec.ofChange fnExactJudgeSpec)) fnExactJudgeCard

/-- THE TIED CARD OF 'laws.FnExactVaultOk'. -/
def fnExactVaultOkCard : Claim7 := { stood := { row := fnExactVaultOkRow, standIns := [], harness := (true, "9630e21f7f59134e9dfc7a9032082210fac43267b75f52f1b8ef671e91f460e1"), looks := true }, kinds := [], alts := [], laidByText := true, laidKinds := [.data], laidTests := true, laidLooks := .later }
def FnExactVaultOkCardSaid : Prop := Claim7.holds Tryd.pinned (.plain (OpenSpec.ofChange fnExactVaultOkSpec)) fnExactVaultOkCard

/-- THE TIED CARD OF 'laws.FnExactPutSeal'. -/
def fnExactPutSealCard : Claim7 := { stood := { row := fnExactPutSealRow, standIns := [], harness := (true, "9630e21f7f59134e9dfc7a9032082210fac43267b75f52f1b8ef671e91f460e1"), looks := true }, kinds := [], alts := [], laidByText := true, laidKinds := [.data], laidTests := true, laidLooks := .later }
def FnExactPutSealCardSaid : Prop := Claim7.holds Tryd.pinned (.plain (OpenSpec.ofChange fnExactPutSealSpec)) fnExactPutSealCard

/-- THE TIED CARD OF 'laws.FnExactUnseal'. -/
def fnExactUnsealCard : Claim7 := { stood := { row := fnExactUnsealRow, standIns := [], harness := (true, "9630e21f7f59134e9dfc7a9032082210fac43267b75f52f1b8ef671e91f460e1"), looks := true }, kinds := [], alts := [], laidByText := true, laidKinds := [.data, .data, .data, .data], laidTests := true, laidLooks := .later }
def FnExactUnsealCardSaid : Prop := Claim7.holds Tryd.pinned (.plain (OpenSpec.ofChange fnExactUnsealSpec)) fnExactUnsealCard

/-- THE TIED CARD OF 'laws.FnExactDemand'. -/
def fnExactDemandCard : Claim7 := { stood := { row := fnExactDemandRow, standIns := [], harness := (true, "9630e21f7f59134e9dfc7a9032082210fac43267b75f52f1b8ef671e91f460e1"), looks := true }, kinds := [], alts := [], laidByText := true, laidKinds := [.data, .data, .data, .data], laidTests := true, laidLooks := .later }
def FnExactDemandCardSaid : Prop := Claim7.holds Tryd.pinned (.plain (OpenSpec.ofChange fnExactDemandSpec)) fnExactDemandCard

/-- THE TIED CARD OF 'laws.FnFolded'. -/
def fnFoldedCard : Claim7 := { stood := { row := fnFoldedRow, standIns := [], harness := (true, "9630e21f7f59134e9dfc7a9032082210fac43267b75f52f1b8ef671e91f460e1"), looks := true }, kinds := [], alts := [], laidByText := true, laidKinds := [.data], laidTests := true, laidLooks := .later }
def FnFoldedCardSaid : Prop := Claim7.holds Tryd.pinned (.plain (OpenSpec.ofChange fnFoldedSpec)) fnFoldedCard

/-- THE SECOND FORM's CARD OF 'laws.FnExactComposite'. -/
def fnExactCompositeUptoCard : Claim7 := { stood := { row := fnExactCompositeUptoRow, standIns := [], harness := (true, "9630e21f7f59134e9dfc7a9032082210fac43267b75f52f1b8ef671e91f460e1"), looks := true }, kinds := [], alts := [], laidByText := true, laidKinds := [.data, .data, .data, .data], laidTests := true, laidLooks := .later }
def FnExactCompositeUptoCardSaid : Prop := Claim7.holds Tryd.pinned (.plain (OpenSpec.upto fnExactCompositeSpec)) fnExactCompositeUptoCard

/-- THE SECOND FORM's CARD OF 'laws.FnExactCheckCert'. -/
def fnExactCheckCertUptoCard : Claim7 := { stood := { row := fnExactCheckCertUptoRow, standIns := [], harness := (true, "9630e21f7f59134e9dfc7a9032082210fac43267b75f52f1b8ef671e91f460e1"), looks := true }, kinds := [], alts := [], laidByText := true, laidKinds := [.data, .data, .data, .data], laidTests := true, laidLooks := .later }
def FnExactCheckCertUptoCardSaid : Prop := Claim7.holds Tryd.pinned (.plain (OpenSpec.upto fnExactCheckCertSpec)) fnExactCheckCertUptoCard

/-- THE SECOND FORM's CARD OF 'laws.FnExactCheckChain'. -/
def fnExactCheckChainUptoCard : Claim7 := { stood := { row := fnExactCheckChainUptoRow, standIns := [], harness := (true, "9630e21f7f59134e9dfc7a9032082210fac43267b75f52f1b8ef671e91f460e1"), looks := true }, kinds := [], alts := [], laidByText := true, laidKinds := [.data, .data, .data, .data], laidTests := true, laidLooks := .later }
def FnExactCheckChainUptoCardSaid : Prop := Claim7.holds Tryd.pinned (.plain (OpenSpec.upto fnExactCheckChainSpec)) fnExactCheckChainUptoCard

/-- THE SECOND FORM's CARD OF 'laws.FnExactJudge'. -/
def fnExactJudgeUptoCard : Claim7 := { stood := { row := fnExactJudgeUptoRow, standIns := [], harness := (true, "9630e21f7f59134e9dfc7a9032082210fac43267b75f52f1b8ef671e91f460e1"), looks := true }, kinds := [], alts := [], laidByText := true, laidKinds := [.data, .data, .data, .data], laidTests := true, laidLooks := .later }
def FnExactJudgeUptoCardSaid : Prop := Claim7.holds Tryd.pinned (.plain (OpenSpec.upto fnExactJudgeSpec)) fnExactJudgeUptoCard

/-- THE SECOND FORM's CARD OF 'laws.FnExactVaultOk'. -/
def fnExactVaultOkUptoCard : Claim7 := { stood := { row := fnExactVaultOkUptoRow, standIns := [], harness := (true, "9630e21f7f59134e9dfc7a9032082210fac43267b75f52f1b8ef671e91f460e1"), looks := true }, kinds := [], alts := [], laidByText := true, laidKinds := [.data], laidTests := true, laidLooks := .later }
def FnExactVaultOkUptoCardSaid : Prop := Claim7.holds Tryd.pinned (.plain (OpenSpec.upto fnExactVaultOkSpec)) fnExactVaultOkUptoCard

/-- THE SECOND FORM's CARD OF 'laws.FnExactPutSeal'. -/
def fnExactPutSealUptoCard : Claim7 := { stood := { row := fnExactPutSealUptoRow, standIns := [], harness := (true, "9630e21f7f59134e9dfc7a9032082210fac43267b75f52f1b8ef671e91f460e1"), looks := true }, kinds := [], alts := [], laidByText := true, laidKinds := [.data], laidTests := true, laidLooks := .later }
def FnExactPutSealUptoCardSaid : Prop := Claim7.holds Tryd.pinned (.plain (OpenSpec.upto fnExactPutSealSpec)) fnExactPutSealUptoCard

/-- THE SECOND FORM's CARD OF 'laws.FnExactUnseal'. -/
def fnExactUnsealUptoCard : Claim7 := { stood := { row := fnExactUnsealUptoRow, standIns := [], harness := (true, "9630e21f7f59134e9dfc7a9032082210fac43267b75f52f1b8ef671e91f460e1"), looks := true }, kinds := [], alts := [], laidByText := true, laidKinds := [.data, .data, .data, .data], laidTests := true, laidLooks := .later }
def FnExactUnsealUptoCardSaid : Prop := Claim7.holds Tryd.pinned (.plain (OpenSpec.upto fnExactUnsealSpec)) fnExactUnsealUptoCard

/-- THE SECOND FORM's CARD OF 'laws.FnExactDemand'. -/
def fnExactDemandUptoCard : Claim7 := { stood := { row := fnExactDemandUptoRow, standIns := [], harness := (true, "9630e21f7f59134e9dfc7a9032082210fac43267b75f52f1b8ef671e91f460e1"), looks := true }, kinds := [], alts := [], laidByText := true, laidKinds := [.data, .data, .data, .data], laidTests := true, laidLooks := .later }
def FnExactDemandUptoCardSaid : Prop := Claim7.holds Tryd.pinned (.plain (OpenSpec.upto fnExactDemandSpec)) fnExactDemandUptoCard

/-- THE SECOND FORM's CARD OF 'laws.FnFolded'. -/
def fnFoldedUptoCard : Claim7 := { stood := { row := fnFoldedUptoRow, standIns := [], harness := (true, "9630e21f7f59134e9dfc7a9032082210fac43267b75f52f1b8ef671e91f460e1"), looks := true }, kinds := [], alts := [], laidByText := true, laidKinds := [.data], laidTests := true, laidLooks := .later }
def FnFoldedUptoCardSaid : Prop := Claim7.holds Tryd.pinned (.plain (OpenSpec.upto fnFoldedSpec)) fnFoldedUptoCard
end Rows
end Go.Proofs.YtponjghppnpnhaaDoor
