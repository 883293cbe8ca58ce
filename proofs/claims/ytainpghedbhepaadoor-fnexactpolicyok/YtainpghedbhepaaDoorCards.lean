/-
  DERIVED. GIVEN WITH THE SEED: THE CARDS: each row of YtainpghedbhepaaDoorRows.lean that lists a variable, with what it lists TIED to the program's text (the seventh form; the later family's looks); each row that meets fmt, with fmt's text TOLD by the authors' own Lean function (tested against real Go, not proved from fmt's source: count such statements apart). THE CARD IS WHAT COUNTS. Prove the row's statement (the work); the ties are given (YtainpghedbhepaaDoorTie.lean); close each card by the builder's one call (the guide's Derived/Test/ToyasCard.lean, 'card_holds'). Laid BY PROGRAM, IN A SANDBOX (cutbox-door.mjs). By AI agents, Wed Nov 11 2026. No macro, syntax, notation, axiom, sorry.
-/
import Derived.Test.YtainpghedbhepaaDoorRows
import GoSem.ClaimSeven
namespace Go.Proofs.YtainpghedbhepaaDoor
namespace Rows

/-- THE TIED CARD OF 'laws.FnExactPolicyOk'. -/
def fnExactPolicyOkCard : Claim7 := { stood := { row := fnExactPolicyOkRow, standIns := [], harness := (true, "f8d3ddce39ec4d46e680a0c10269bf317b777ab1b88312750df9b78233c05e07"), looks := true }, kinds := [], alts := [], laidByText := true, laidKinds := [.data, .data, .data, .data], laidTests := true, laidLooks := .later }
def FnExactPolicyOkCardSaid : Prop := Claim7.holds Tryd.pinned (.plain (OpenSpec.ofChange fnExactPolicyOkSpec)) fnExactPolicyOkCard

/-- THE TIED CARD OF 'laws.FnExactJudge'. -/
def fnExactJudgeCard : Claim7 := { stood := { row := fnExactJudgeRow, standIns := [], harness := (true, "f8d3ddce39ec4d46e680a0c10269bf317b777ab1b88312750df9b78233c05e07"), looks := true }, kinds := [], alts := [], laidByText := true, laidKinds := [.data, .data, .data, .data], laidTests := true, laidLooks := .later }
def FnExactJudgeCardSaid : Prop := Claim7.holds Tryd.pinned (.plain (OpenSpec.ofChange fnExactJudgeSpec)) fnExactJudgeCard

/-- THE TIED CARD OF 'laws.FnExactDemand'. -/
def fnExactDemandCard : Claim7 := { stood := { row := fnExactDemandRow, standIns := [], harness := (true, "f8d3ddce39ec4d46e680a0c10269bf317b777ab1b88312750df9b78233c05e07"), looks := true }, kinds := [], alts := [], laidByText := true, laidKinds := [.data, .data, .data, .data], laidTests := true, laidLooks := .later }
def FnExactDemandCardSaid : Prop := Claim7.holds Tryd.pinned (.plain (OpenSpec.ofChange fnExactDemandSpec)) fnExactDemandCard

/-- THE TIED CARD OF 'laws.FnExactTableOk'. -/
def fnExactTableOkCard : Claim7 := { stood := { row := fnExactTableOkRow, standIns := [], harness := (true, "f8d3ddce39ec4d46e680a0c10269bf317b777ab1b88312750df9b78233c05e07"), looks := true }, kinds := [], alts := [], laidByText := true, laidKinds := [.data, .data, .data, .data], laidTests := true, laidLooks := .later }
def FnExactTableOkCardSaid : Prop := Claim7.holds Tryd.pinned (.plain (OpenSpec.ofChange fnExactTableOkSpec)) fnExactTableOkCard

/-- THE TIED CARD OF 'laws.FnExactNonceOf'. -/
def fnExactNonceOfCard : Claim7 := { stood := { row := fnExactNonceOfRow, standIns := [], harness := (true, "f8d3ddce39ec4d46e680a0c10269bf317b777ab1b88312750df9b78233c05e07"), looks := true }, kinds := [], alts := [], laidByText := true, laidKinds := [.data, .data, .data, .data], laidTests := true, laidLooks := .later }
def FnExactNonceOfCardSaid : Prop := Claim7.holds Tryd.pinned (.plain (OpenSpec.ofChange fnExactNonceOfSpec)) fnExactNonceOfCard

/-- THE TIED CARD OF 'laws.FnExactPass'. -/
def fnExactPassCard : Claim7 := { stood := { row := fnExactPassRow, standIns := [], harness := (true, "f8d3ddce39ec4d46e680a0c10269bf317b777ab1b88312750df9b78233c05e07"), looks := true }, kinds := [], alts := [], laidByText := true, laidKinds := [.data, .data, .data, .data], laidTests := true, laidLooks := .later }
def FnExactPassCardSaid : Prop := Claim7.holds Tryd.pinned (.plain (OpenSpec.ofChange fnExactPassSpec)) fnExactPassCard

/-- THE SECOND FORM's CARD OF 'laws.FnExactPolicyOk'. -/
def fnExactPolicyOkUptoCard : Claim7 := { stood := { row := fnExactPolicyOkUptoRow, standIns := [], harness := (true, "f8d3ddce39ec4d46e680a0c10269bf317b777ab1b88312750df9b78233c05e07"), looks := true }, kinds := [], alts := [], laidByText := true, laidKinds := [.data, .data, .data, .data], laidTests := true, laidLooks := .later }
def FnExactPolicyOkUptoCardSaid : Prop := Claim7.holds Tryd.pinned (.plain (OpenSpec.upto fnExactPolicyOkSpec)) fnExactPolicyOkUptoCard

/-- THE SECOND FORM's CARD OF 'laws.FnExactJudge'. -/
def fnExactJudgeUptoCard : Claim7 := { stood := { row := fnExactJudgeUptoRow, standIns := [], harness := (true, "f8d3ddce39ec4d46e680a0c10269bf317b777ab1b88312750df9b78233c05e07"), looks := true }, kinds := [], alts := [], laidByText := true, laidKinds := [.data, .data, .data, .data], laidTests := true, laidLooks := .later }
def FnExactJudgeUptoCardSaid : Prop := Claim7.holds Tryd.pinned (.plain (OpenSpec.upto fnExactJudgeSpec)) fnExactJudgeUptoCard

/-- THE SECOND FORM's CARD OF 'laws.FnExactDemand'. -/
def fnExactDemandUptoCard : Claim7 := { stood := { row := fnExactDemandUptoRow, standIns := [], harness := (true, "f8d3ddce39ec4d46e680a0c10269bf317b777ab1b88312750df9b78233c05e07"), looks := true }, kinds := [], alts := [], laidByText := true, laidKinds := [.data, .data, .data, .data], laidTests := true, laidLooks := .later }
def FnExactDemandUptoCardSaid : Prop := Claim7.holds Tryd.pinned (.plain (OpenSpec.upto fnExactDemandSpec)) fnExactDemandUptoCard

/-- THE SECOND FORM's CARD OF 'laws.FnExactTableOk'. -/
def fnExactTableOkUptoCard : Claim7 := { stood := { row := fnExactTableOkUptoRow, standIns := [], harness := (true, "f8d3ddce39ec4d46e680a0c10269bf317b777ab1b88312750df9b78233c05e07"), looks := true }, kinds := [], alts := [], laidByText := true, laidKinds := [.data, .data, .data, .data], laidTests := true, laidLooks := .later }
def FnExactTableOkUptoCardSaid : Prop := Claim7.holds Tryd.pinned (.plain (OpenSpec.upto fnExactTableOkSpec)) fnExactTableOkUptoCard

/-- THE SECOND FORM's CARD OF 'laws.FnExactNonceOf'. -/
def fnExactNonceOfUptoCard : Claim7 := { stood := { row := fnExactNonceOfUptoRow, standIns := [], harness := (true, "f8d3ddce39ec4d46e680a0c10269bf317b777ab1b88312750df9b78233c05e07"), looks := true }, kinds := [], alts := [], laidByText := true, laidKinds := [.data, .data, .data, .data], laidTests := true, laidLooks := .later }
def FnExactNonceOfUptoCardSaid : Prop := Claim7.holds Tryd.pinned (.plain (OpenSpec.upto fnExactNonceOfSpec)) fnExactNonceOfUptoCard

/-- THE SECOND FORM's CARD OF 'laws.FnExactPass'. -/
def fnExactPassUptoCard : Claim7 := { stood := { row := fnExactPassUptoRow, standIns := [], harness := (true, "f8d3ddce39ec4d46e680a0c10269bf317b777ab1b88312750df9b78233c05e07"), looks := true }, kinds := [], alts := [], laidByText := true, laidKinds := [.data, .data, .data, .data], laidTests := true, laidLooks := .later }
def FnExactPassUptoCardSaid : Prop := Claim7.holds Tryd.pinned (.plain (OpenSpec.upto fnExactPassSpec)) fnExactPassUptoCard
end Rows
end Go.Proofs.YtainpghedbhepaaDoor
