/-
  DERIVED. GIVEN WITH THE SEED: THE CARDS: each row of YtjaaplcgphlccaaGreatDoorRows.lean that lists a variable, with what it lists TIED to the program's text (the seventh form; the later family's looks); each row that meets fmt, with fmt's text TOLD by the authors' own Lean function (tested against real Go, not proved from fmt's source: count such statements apart). THE CARD IS WHAT COUNTS. Prove the row's statement (the work); the ties are given (YtjaaplcgphlccaaGreatDoorTie.lean); close each card by the builder's one call (the guide's Derived/Test/ToyasCard.lean, 'card_holds'). Laid BY PROGRAM, IN A SANDBOX (cutbox-door.mjs). By AI agents, Wed Nov 11 2026. No macro, syntax, notation, axiom, sorry.
-/
import Derived.Test.YtjaaplcgphlccaaGreatDoorRows
import GoSem.ClaimSeven
namespace Go.Proofs.YtjaaplcgphlccaaGreatDoor
namespace Rows

/-- THE TIED CARD OF 'laws.FnExactAccept'. -/
def fnExactAcceptCard : Claim7 := { stood := { row := fnExactAcceptRow, standIns := [], harness := (true, "f275dab53ec1b24cfb5358481f3c7fe8bf609e5d5baddf05711d955327802c5f"), looks := true }, kinds := [], alts := [], laidByText := true, laidKinds := [.data, .data, .data, .data], laidTests := true, laidLooks := .later }
def FnExactAcceptCardSaid : Prop := Claim7.holds Tryz.pinned (.plain (OpenSpec.ofChange fnExactAcceptSpec)) fnExactAcceptCard

/-- THE TIED CARD OF 'laws.FnTaken'. -/
def fnTakenCard : Claim7 := { stood := { row := fnTakenRow, standIns := [], harness := (true, "f275dab53ec1b24cfb5358481f3c7fe8bf609e5d5baddf05711d955327802c5f"), looks := true }, kinds := [], alts := [], laidByText := true, laidKinds := [.data, .data, .data, .data], laidTests := true, laidLooks := .later }
def FnTakenCardSaid : Prop := Claim7.holds Tryz.pinned (.plain (OpenSpec.ofChange fnTakenSpec)) fnTakenCard

/-- THE SECOND FORM's CARD OF 'laws.FnExactAccept'. -/
def fnExactAcceptUptoCard : Claim7 := { stood := { row := fnExactAcceptUptoRow, standIns := [], harness := (true, "f275dab53ec1b24cfb5358481f3c7fe8bf609e5d5baddf05711d955327802c5f"), looks := true }, kinds := [], alts := [], laidByText := true, laidKinds := [.data, .data, .data, .data], laidTests := true, laidLooks := .later }
def FnExactAcceptUptoCardSaid : Prop := Claim7.holds Tryz.pinned (.plain (OpenSpec.upto fnExactAcceptSpec)) fnExactAcceptUptoCard

/-- THE SECOND FORM's CARD OF 'laws.FnTaken'. -/
def fnTakenUptoCard : Claim7 := { stood := { row := fnTakenUptoRow, standIns := [], harness := (true, "f275dab53ec1b24cfb5358481f3c7fe8bf609e5d5baddf05711d955327802c5f"), looks := true }, kinds := [], alts := [], laidByText := true, laidKinds := [.data, .data, .data, .data], laidTests := true, laidLooks := .later }
def FnTakenUptoCardSaid : Prop := Claim7.holds Tryz.pinned (.plain (OpenSpec.upto fnTakenSpec)) fnTakenUptoCard
end Rows
end Go.Proofs.YtjaaplcgphlccaaGreatDoor
