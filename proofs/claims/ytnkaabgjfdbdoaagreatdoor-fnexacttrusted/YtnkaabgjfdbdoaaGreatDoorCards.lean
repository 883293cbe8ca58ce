/-
  DERIVED. GIVEN WITH THE SEED: THE CARDS: each row of YtnkaabgjfdbdoaaGreatDoorRows.lean that lists a variable, with what it lists TIED to the program's text (the seventh form; the later family's looks); each row that meets fmt, with fmt's text TOLD by the authors' own Lean function (tested against real Go, not proved from fmt's source: count such statements apart). THE CARD IS WHAT COUNTS. Prove the row's statement (the work); the ties are given (YtnkaabgjfdbdoaaGreatDoorTie.lean); close each card by the builder's one call (the guide's Derived/Test/ToyasCard.lean, 'card_holds'). Laid BY PROGRAM, IN A SANDBOX (cutbox-door.mjs). By AI agents, Wed Nov 11 2026. No macro, syntax, notation, axiom, sorry.
-/
import Derived.Test.YtnkaabgjfdbdoaaGreatDoorRows
import GoSem.ClaimSeven
namespace Go.Proofs.YtnkaabgjfdbdoaaGreatDoor
namespace Rows

/-- THE TIED CARD OF 'laws.FnExactDeviceOk'. -/
def fnExactDeviceOkCard : Claim7 := { stood := { row := fnExactDeviceOkRow, standIns := [], harness := (true, "34d86790f7fef31131b702b4d4259fda3dbb2e6bf49ca5f639ae3944636d3a5c"), looks := true }, kinds := [], alts := [], laidByText := true, laidKinds := [.data, .data, .data, .data], laidTests := true, laidLooks := .later }
def FnExactDeviceOkCardSaid : Prop := Claim7.holds Tryz.pinned (.plain (OpenSpec.ofChange fnExactDeviceOkSpec)) fnExactDeviceOkCard

/-- THE TIED CARD OF 'laws.FnExactTrusted'. -/
def fnExactTrustedCard : Claim7 := { stood := { row := fnExactTrustedRow, standIns := [], harness := (true, "34d86790f7fef31131b702b4d4259fda3dbb2e6bf49ca5f639ae3944636d3a5c"), looks := true }, kinds := [], alts := [], laidByText := true, laidKinds := [.data, .data, .data, .data], laidTests := true, laidLooks := .later }
def FnExactTrustedCardSaid : Prop := Claim7.holds Tryz.pinned (.plain (OpenSpec.ofChange fnExactTrustedSpec)) fnExactTrustedCard

/-- THE TIED CARD OF 'laws.FnExactRestart'. -/
def fnExactRestartCard : Claim7 := { stood := { row := fnExactRestartRow, standIns := [], harness := (true, "34d86790f7fef31131b702b4d4259fda3dbb2e6bf49ca5f639ae3944636d3a5c"), looks := true }, kinds := [], alts := [], laidByText := true, laidKinds := [.data, .data, .data, .data], laidTests := true, laidLooks := .later }
def FnExactRestartCardSaid : Prop := Claim7.holds Tryz.pinned (.plain (OpenSpec.ofChange fnExactRestartSpec)) fnExactRestartCard

/-- THE TIED CARD OF 'laws.FnExactLoad'. -/
def fnExactLoadCard : Claim7 := { stood := { row := fnExactLoadRow, standIns := [], harness := (true, "34d86790f7fef31131b702b4d4259fda3dbb2e6bf49ca5f639ae3944636d3a5c"), looks := true }, kinds := [], alts := [], laidByText := true, laidKinds := [.data, .data, .data, .data], laidTests := true, laidLooks := .later }
def FnExactLoadCardSaid : Prop := Claim7.holds Tryz.pinned (.plain (OpenSpec.ofChange fnExactLoadSpec)) fnExactLoadCard

/-- THE TIED CARD OF 'laws.FnExactNote'. -/
def fnExactNoteCard : Claim7 := { stood := { row := fnExactNoteRow, standIns := [], harness := (true, "34d86790f7fef31131b702b4d4259fda3dbb2e6bf49ca5f639ae3944636d3a5c"), looks := true }, kinds := [], alts := [], laidByText := true, laidKinds := [.data, .data, .data, .data], laidTests := true, laidLooks := .later }
def FnExactNoteCardSaid : Prop := Claim7.holds Tryz.pinned (.plain (OpenSpec.ofChange fnExactNoteSpec)) fnExactNoteCard

/-- THE SECOND FORM's CARD OF 'laws.FnExactDeviceOk'. -/
def fnExactDeviceOkUptoCard : Claim7 := { stood := { row := fnExactDeviceOkUptoRow, standIns := [], harness := (true, "34d86790f7fef31131b702b4d4259fda3dbb2e6bf49ca5f639ae3944636d3a5c"), looks := true }, kinds := [], alts := [], laidByText := true, laidKinds := [.data, .data, .data, .data], laidTests := true, laidLooks := .later }
def FnExactDeviceOkUptoCardSaid : Prop := Claim7.holds Tryz.pinned (.plain (OpenSpec.upto fnExactDeviceOkSpec)) fnExactDeviceOkUptoCard

/-- THE SECOND FORM's CARD OF 'laws.FnExactTrusted'. -/
def fnExactTrustedUptoCard : Claim7 := { stood := { row := fnExactTrustedUptoRow, standIns := [], harness := (true, "34d86790f7fef31131b702b4d4259fda3dbb2e6bf49ca5f639ae3944636d3a5c"), looks := true }, kinds := [], alts := [], laidByText := true, laidKinds := [.data, .data, .data, .data], laidTests := true, laidLooks := .later }
def FnExactTrustedUptoCardSaid : Prop := Claim7.holds Tryz.pinned (.plain (OpenSpec.upto fnExactTrustedSpec)) fnExactTrustedUptoCard

/-- THE SECOND FORM's CARD OF 'laws.FnExactRestart'. -/
def fnExactRestartUptoCard : Claim7 := { stood := { row := fnExactRestartUptoRow, standIns := [], harness := (true, "34d86790f7fef31131b702b4d4259fda3dbb2e6bf49ca5f639ae3944636d3a5c"), looks := true }, kinds := [], alts := [], laidByText := true, laidKinds := [.data, .data, .data, .data], laidTests := true, laidLooks := .later }
def FnExactRestartUptoCardSaid : Prop := Claim7.holds Tryz.pinned (.plain (OpenSpec.upto fnExactRestartSpec)) fnExactRestartUptoCard

/-- THE SECOND FORM's CARD OF 'laws.FnExactLoad'. -/
def fnExactLoadUptoCard : Claim7 := { stood := { row := fnExactLoadUptoRow, standIns := [], harness := (true, "34d86790f7fef31131b702b4d4259fda3dbb2e6bf49ca5f639ae3944636d3a5c"), looks := true }, kinds := [], alts := [], laidByText := true, laidKinds := [.data, .data, .data, .data], laidTests := true, laidLooks := .later }
def FnExactLoadUptoCardSaid : Prop := Claim7.holds Tryz.pinned (.plain (OpenSpec.upto fnExactLoadSpec)) fnExactLoadUptoCard

/-- THE SECOND FORM's CARD OF 'laws.FnExactNote'. -/
def fnExactNoteUptoCard : Claim7 := { stood := { row := fnExactNoteUptoRow, standIns := [], harness := (true, "34d86790f7fef31131b702b4d4259fda3dbb2e6bf49ca5f639ae3944636d3a5c"), looks := true }, kinds := [], alts := [], laidByText := true, laidKinds := [.data, .data, .data, .data], laidTests := true, laidLooks := .later }
def FnExactNoteUptoCardSaid : Prop := Claim7.holds Tryz.pinned (.plain (OpenSpec.upto fnExactNoteSpec)) fnExactNoteUptoCard
end Rows
end Go.Proofs.YtnkaabgjfdbdoaaGreatDoor
