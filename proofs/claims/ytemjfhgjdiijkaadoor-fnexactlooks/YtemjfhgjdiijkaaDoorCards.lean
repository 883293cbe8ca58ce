/-
  DERIVED. GIVEN WITH THE SEED: THE CARDS: each row of YtemjfhgjdiijkaaDoorRows.lean that lists a variable, with what it lists TIED to the program's text (the seventh form; the later family's looks); each row that meets fmt, with fmt's text TOLD by the authors' own Lean function (tested against real Go, not proved from fmt's source: count such statements apart). THE CARD IS WHAT COUNTS. Prove the row's statement (the work); the ties are given (YtemjfhgjdiijkaaDoorTie.lean); close each card by the builder's one call (the guide's Derived/Test/ToyasCard.lean, 'card_holds'). Laid BY PROGRAM, IN A SANDBOX (cutbox-door.mjs). By AI agents, Wed Nov 11 2026. No macro, syntax, notation, axiom, sorry.
-/
import Derived.Test.YtemjfhgjdiijkaaDoorRows
import GoSem.ClaimSeven
namespace Go.Proofs.YtemjfhgjdiijkaaDoor
namespace Rows

/-- THE TIED CARD OF 'laws.FnExactCertBy'. -/
def fnExactCertByCard : Claim7 := { stood := { row := fnExactCertByRow, standIns := [], harness := (true, "0a1d356e61709b1234b93a8b851903102c1fd3c79015691d07f5b1e91dd2aa93"), looks := true }, kinds := [], alts := [], laidByText := true, laidKinds := [.data, .data, .data, .data], laidTests := true, laidLooks := .later }
def FnExactCertByCardSaid : Prop := Claim7.holds Tryd.pinned (.plain (OpenSpec.ofChange fnExactCertBySpec)) fnExactCertByCard

/-- THE TIED CARD OF 'laws.FnExactCheckCert'. -/
def fnExactCheckCertCard : Claim7 := { stood := { row := fnExactCheckCertRow, standIns := [], harness := (true, "0a1d356e61709b1234b93a8b851903102c1fd3c79015691d07f5b1e91dd2aa93"), looks := true }, kinds := [], alts := [], laidByText := true, laidKinds := [.data, .data, .data, .data], laidTests := true, laidLooks := .later }
def FnExactCheckCertCardSaid : Prop := Claim7.holds Tryd.pinned (.plain (OpenSpec.ofChange fnExactCheckCertSpec)) fnExactCheckCertCard

/-- THE TIED CARD OF 'laws.FnExactCheckChain'. -/
def fnExactCheckChainCard : Claim7 := { stood := { row := fnExactCheckChainRow, standIns := [], harness := (true, "0a1d356e61709b1234b93a8b851903102c1fd3c79015691d07f5b1e91dd2aa93"), looks := true }, kinds := [], alts := [], laidByText := true, laidKinds := [.data, .data, .data, .data], laidTests := true, laidLooks := .later }
def FnExactCheckChainCardSaid : Prop := Claim7.holds Tryd.pinned (.plain (OpenSpec.ofChange fnExactCheckChainSpec)) fnExactCheckChainCard

/-- THE TIED CARD OF 'laws.FnExactRenewed'. -/
def fnExactRenewedCard : Claim7 := { stood := { row := fnExactRenewedRow, standIns := [], harness := (true, "0a1d356e61709b1234b93a8b851903102c1fd3c79015691d07f5b1e91dd2aa93"), looks := true }, kinds := [], alts := [], laidByText := true, laidKinds := [.data, .data, .data, .data], laidTests := true, laidLooks := .later }
def FnExactRenewedCardSaid : Prop := Claim7.holds Tryd.pinned (.plain (OpenSpec.ofChange fnExactRenewedSpec)) fnExactRenewedCard

/-- THE TIED CARD OF 'laws.FnExactLooks'. -/
def fnExactLooksCard : Claim7 := { stood := { row := fnExactLooksRow, standIns := [], harness := (true, "0a1d356e61709b1234b93a8b851903102c1fd3c79015691d07f5b1e91dd2aa93"), looks := true }, kinds := [], alts := [], laidByText := true, laidKinds := [.data, .data, .data, .sentinel, .sentinel, .data], laidTests := true, laidLooks := .later }
def FnExactLooksCardSaid : Prop := Claim7.holds Tryd.pinned (.plain (OpenSpec.ofChange fnExactLooksSpec)) fnExactLooksCard

/-- THE TIED CARD OF 'laws.FnChained'. -/
def fnChainedCard : Claim7 := { stood := { row := fnChainedRow, standIns := [], harness := (true, "0a1d356e61709b1234b93a8b851903102c1fd3c79015691d07f5b1e91dd2aa93"), looks := true }, kinds := [], alts := [], laidByText := true, laidKinds := [.data, .data, .data, .data], laidTests := true, laidLooks := .later }
def FnChainedCardSaid : Prop := Claim7.holds Tryd.pinned (.plain (OpenSpec.ofChange fnChainedSpec)) fnChainedCard

/-- THE TIED CARD OF 'laws.FnRenewed'. -/
def fnRenewedCard : Claim7 := { stood := { row := fnRenewedRow, standIns := [], harness := (true, "0a1d356e61709b1234b93a8b851903102c1fd3c79015691d07f5b1e91dd2aa93"), looks := true }, kinds := [], alts := [], laidByText := true, laidKinds := [.data, .data, .data, .data], laidTests := true, laidLooks := .later }
def FnRenewedCardSaid : Prop := Claim7.holds Tryd.pinned (.plain (OpenSpec.ofChange fnRenewedSpec)) fnRenewedCard

/-- THE SECOND FORM's CARD OF 'laws.FnExactCertBy'. -/
def fnExactCertByUptoCard : Claim7 := { stood := { row := fnExactCertByUptoRow, standIns := [], harness := (true, "0a1d356e61709b1234b93a8b851903102c1fd3c79015691d07f5b1e91dd2aa93"), looks := true }, kinds := [], alts := [], laidByText := true, laidKinds := [.data, .data, .data, .data], laidTests := true, laidLooks := .later }
def FnExactCertByUptoCardSaid : Prop := Claim7.holds Tryd.pinned (.plain (OpenSpec.upto fnExactCertBySpec)) fnExactCertByUptoCard

/-- THE SECOND FORM's CARD OF 'laws.FnExactCheckCert'. -/
def fnExactCheckCertUptoCard : Claim7 := { stood := { row := fnExactCheckCertUptoRow, standIns := [], harness := (true, "0a1d356e61709b1234b93a8b851903102c1fd3c79015691d07f5b1e91dd2aa93"), looks := true }, kinds := [], alts := [], laidByText := true, laidKinds := [.data, .data, .data, .data], laidTests := true, laidLooks := .later }
def FnExactCheckCertUptoCardSaid : Prop := Claim7.holds Tryd.pinned (.plain (OpenSpec.upto fnExactCheckCertSpec)) fnExactCheckCertUptoCard

/-- THE SECOND FORM's CARD OF 'laws.FnExactCheckChain'. -/
def fnExactCheckChainUptoCard : Claim7 := { stood := { row := fnExactCheckChainUptoRow, standIns := [], harness := (true, "0a1d356e61709b1234b93a8b851903102c1fd3c79015691d07f5b1e91dd2aa93"), looks := true }, kinds := [], alts := [], laidByText := true, laidKinds := [.data, .data, .data, .data], laidTests := true, laidLooks := .later }
def FnExactCheckChainUptoCardSaid : Prop := Claim7.holds Tryd.pinned (.plain (OpenSpec.upto fnExactCheckChainSpec)) fnExactCheckChainUptoCard

/-- THE SECOND FORM's CARD OF 'laws.FnExactRenewed'. -/
def fnExactRenewedUptoCard : Claim7 := { stood := { row := fnExactRenewedUptoRow, standIns := [], harness := (true, "0a1d356e61709b1234b93a8b851903102c1fd3c79015691d07f5b1e91dd2aa93"), looks := true }, kinds := [], alts := [], laidByText := true, laidKinds := [.data, .data, .data, .data], laidTests := true, laidLooks := .later }
def FnExactRenewedUptoCardSaid : Prop := Claim7.holds Tryd.pinned (.plain (OpenSpec.upto fnExactRenewedSpec)) fnExactRenewedUptoCard

/-- THE SECOND FORM's CARD OF 'laws.FnExactLooks'. -/
def fnExactLooksUptoCard : Claim7 := { stood := { row := fnExactLooksUptoRow, standIns := [], harness := (true, "0a1d356e61709b1234b93a8b851903102c1fd3c79015691d07f5b1e91dd2aa93"), looks := true }, kinds := [], alts := [], laidByText := true, laidKinds := [.data, .data, .data, .sentinel, .sentinel, .data], laidTests := true, laidLooks := .later }
def FnExactLooksUptoCardSaid : Prop := Claim7.holds Tryd.pinned (.plain (OpenSpec.upto fnExactLooksSpec)) fnExactLooksUptoCard

/-- THE SECOND FORM's CARD OF 'laws.FnChained'. -/
def fnChainedUptoCard : Claim7 := { stood := { row := fnChainedUptoRow, standIns := [], harness := (true, "0a1d356e61709b1234b93a8b851903102c1fd3c79015691d07f5b1e91dd2aa93"), looks := true }, kinds := [], alts := [], laidByText := true, laidKinds := [.data, .data, .data, .data], laidTests := true, laidLooks := .later }
def FnChainedUptoCardSaid : Prop := Claim7.holds Tryd.pinned (.plain (OpenSpec.upto fnChainedSpec)) fnChainedUptoCard

/-- THE SECOND FORM's CARD OF 'laws.FnRenewed'. -/
def fnRenewedUptoCard : Claim7 := { stood := { row := fnRenewedUptoRow, standIns := [], harness := (true, "0a1d356e61709b1234b93a8b851903102c1fd3c79015691d07f5b1e91dd2aa93"), looks := true }, kinds := [], alts := [], laidByText := true, laidKinds := [.data, .data, .data, .data], laidTests := true, laidLooks := .later }
def FnRenewedUptoCardSaid : Prop := Claim7.holds Tryd.pinned (.plain (OpenSpec.upto fnRenewedSpec)) fnRenewedUptoCard
end Rows
end Go.Proofs.YtemjfhgjdiijkaaDoor
