/-
  DERIVED. GIVEN WITH THE SEED: THE CARDS: each row of YtnlnfjchnjdfoaaDoorRows.lean that lists a variable, with what it lists TIED to the program's text (the seventh form; the later family's looks); each row that meets fmt, with fmt's text TOLD by the authors' own Lean function (tested against real Go, not proved from fmt's source: count such statements apart). THE CARD IS WHAT COUNTS. Prove the row's statement (the work); the ties are given (YtnlnfjchnjdfoaaDoorTie.lean); close each card by the builder's one call (the guide's Derived/Test/ToyasCard.lean, 'card_holds'). Laid BY PROGRAM, IN A SANDBOX (cutbox-door.mjs). By AI agents, Wed Nov 11 2026. No macro, syntax, notation, axiom, sorry.
-/
import Derived.Test.YtnlnfjchnjdfoaaDoorRows
import GoSem.ClaimSeven
namespace Go.Proofs.YtnlnfjchnjdfoaaDoor
namespace Rows

/-- THE TIED CARD OF 'laws.FnExactExtend'. -/
def fnExactExtendCard : Claim7 := { stood := { row := fnExactExtendRow, standIns := [], harness := (true, "d2fe58ceff5da5c139dc6d5e441db7ed0246c6543ae7e36d80d58a60f87e4a7d"), looks := true }, kinds := [], alts := [], laidByText := true, laidKinds := [.data], laidTests := true, laidLooks := .later }
def FnExactExtendCardSaid : Prop := Claim7.holds Tryd.pinned (.plain (OpenSpec.ofChange fnExactExtendSpec)) fnExactExtendCard

/-- THE TIED CARD OF 'laws.FnExactFold'. -/
def fnExactFoldCard : Claim7 := { stood := { row := fnExactFoldRow, standIns := [], harness := (true, "d2fe58ceff5da5c139dc6d5e441db7ed0246c6543ae7e36d80d58a60f87e4a7d"), looks := true }, kinds := [], alts := [], laidByText := true, laidKinds := [.data], laidTests := true, laidLooks := .later }
def FnExactFoldCardSaid : Prop := Claim7.holds Tryd.pinned (.plain (OpenSpec.ofChange fnExactFoldSpec)) fnExactFoldCard

/-- THE TIED CARD OF 'laws.FnExactRootExtend'. -/
def fnExactRootExtendCard : Claim7 := { stood := { row := fnExactRootExtendRow, standIns := [], harness := (true, "d2fe58ceff5da5c139dc6d5e441db7ed0246c6543ae7e36d80d58a60f87e4a7d"), looks := true }, kinds := [], alts := [], laidByText := true, laidKinds := [.data], laidTests := true, laidLooks := .later }
def FnExactRootExtendCardSaid : Prop := Claim7.holds Tryd.pinned (.plain (OpenSpec.ofChange fnExactRootExtendSpec)) fnExactRootExtendCard

/-- THE TIED CARD OF 'laws.FnExactPowerOn'. -/
def fnExactPowerOnCard : Claim7 := { stood := { row := fnExactPowerOnRow, standIns := [], harness := (true, "d2fe58ceff5da5c139dc6d5e441db7ed0246c6543ae7e36d80d58a60f87e4a7d"), looks := true }, kinds := [], alts := [], laidByText := true, laidKinds := [.data], laidTests := true, laidLooks := .later }
def FnExactPowerOnCardSaid : Prop := Claim7.holds Tryd.pinned (.plain (OpenSpec.ofChange fnExactPowerOnSpec)) fnExactPowerOnCard

/-- THE TIED CARD OF 'laws.FnExactPowerOff'. -/
def fnExactPowerOffCard : Claim7 := { stood := { row := fnExactPowerOffRow, standIns := [], harness := (true, "d2fe58ceff5da5c139dc6d5e441db7ed0246c6543ae7e36d80d58a60f87e4a7d"), looks := true }, kinds := [], alts := [], laidByText := true, laidKinds := [.data], laidTests := true, laidLooks := .later }
def FnExactPowerOffCardSaid : Prop := Claim7.holds Tryd.pinned (.plain (OpenSpec.ofChange fnExactPowerOffSpec)) fnExactPowerOffCard

/-- THE TIED CARD OF 'laws.FnExactMeasureOf'. -/
def fnExactMeasureOfCard : Claim7 := { stood := { row := fnExactMeasureOfRow, standIns := [], harness := (true, "d2fe58ceff5da5c139dc6d5e441db7ed0246c6543ae7e36d80d58a60f87e4a7d"), looks := true }, kinds := [], alts := [], laidByText := true, laidKinds := [.data, .data, .data, .data], laidTests := true, laidLooks := .later }
def FnExactMeasureOfCardSaid : Prop := Claim7.holds Tryd.pinned (.plain (OpenSpec.ofChange fnExactMeasureOfSpec)) fnExactMeasureOfCard

/-- THE TIED CARD OF 'laws.FnExactDeviceNew'. -/
def fnExactDeviceNewCard : Claim7 := { stood := { row := fnExactDeviceNewRow, standIns := [], harness := (true, "d2fe58ceff5da5c139dc6d5e441db7ed0246c6543ae7e36d80d58a60f87e4a7d"), looks := true }, kinds := [], alts := [], laidByText := true, laidKinds := [.data], laidTests := true, laidLooks := .later }
def FnExactDeviceNewCardSaid : Prop := Claim7.holds Tryd.pinned (.plain (OpenSpec.ofChange fnExactDeviceNewSpec)) fnExactDeviceNewCard

/-- THE TIED CARD OF 'laws.FnFolded'. -/
def fnFoldedCard : Claim7 := { stood := { row := fnFoldedRow, standIns := [], harness := (true, "d2fe58ceff5da5c139dc6d5e441db7ed0246c6543ae7e36d80d58a60f87e4a7d"), looks := true }, kinds := [], alts := [], laidByText := true, laidKinds := [.data], laidTests := true, laidLooks := .later }
def FnFoldedCardSaid : Prop := Claim7.holds Tryd.pinned (.plain (OpenSpec.ofChange fnFoldedSpec)) fnFoldedCard

/-- THE TIED CARD OF 'laws.FnComposites'. -/
def fnCompositesCard : Claim7 := { stood := { row := fnCompositesRow, standIns := [], harness := (true, "d2fe58ceff5da5c139dc6d5e441db7ed0246c6543ae7e36d80d58a60f87e4a7d"), looks := true }, kinds := [], alts := [], laidByText := true, laidKinds := [.data, .data, .data, .data], laidTests := true, laidLooks := .later }
def FnCompositesCardSaid : Prop := Claim7.holds Tryd.pinned (.plain (OpenSpec.ofChange fnCompositesSpec)) fnCompositesCard

/-- THE SECOND FORM's CARD OF 'laws.FnExactExtend'. -/
def fnExactExtendUptoCard : Claim7 := { stood := { row := fnExactExtendUptoRow, standIns := [], harness := (true, "d2fe58ceff5da5c139dc6d5e441db7ed0246c6543ae7e36d80d58a60f87e4a7d"), looks := true }, kinds := [], alts := [], laidByText := true, laidKinds := [.data], laidTests := true, laidLooks := .later }
def FnExactExtendUptoCardSaid : Prop := Claim7.holds Tryd.pinned (.plain (OpenSpec.upto fnExactExtendSpec)) fnExactExtendUptoCard

/-- THE SECOND FORM's CARD OF 'laws.FnExactFold'. -/
def fnExactFoldUptoCard : Claim7 := { stood := { row := fnExactFoldUptoRow, standIns := [], harness := (true, "d2fe58ceff5da5c139dc6d5e441db7ed0246c6543ae7e36d80d58a60f87e4a7d"), looks := true }, kinds := [], alts := [], laidByText := true, laidKinds := [.data], laidTests := true, laidLooks := .later }
def FnExactFoldUptoCardSaid : Prop := Claim7.holds Tryd.pinned (.plain (OpenSpec.upto fnExactFoldSpec)) fnExactFoldUptoCard

/-- THE SECOND FORM's CARD OF 'laws.FnExactRootExtend'. -/
def fnExactRootExtendUptoCard : Claim7 := { stood := { row := fnExactRootExtendUptoRow, standIns := [], harness := (true, "d2fe58ceff5da5c139dc6d5e441db7ed0246c6543ae7e36d80d58a60f87e4a7d"), looks := true }, kinds := [], alts := [], laidByText := true, laidKinds := [.data], laidTests := true, laidLooks := .later }
def FnExactRootExtendUptoCardSaid : Prop := Claim7.holds Tryd.pinned (.plain (OpenSpec.upto fnExactRootExtendSpec)) fnExactRootExtendUptoCard

/-- THE SECOND FORM's CARD OF 'laws.FnExactPowerOn'. -/
def fnExactPowerOnUptoCard : Claim7 := { stood := { row := fnExactPowerOnUptoRow, standIns := [], harness := (true, "d2fe58ceff5da5c139dc6d5e441db7ed0246c6543ae7e36d80d58a60f87e4a7d"), looks := true }, kinds := [], alts := [], laidByText := true, laidKinds := [.data], laidTests := true, laidLooks := .later }
def FnExactPowerOnUptoCardSaid : Prop := Claim7.holds Tryd.pinned (.plain (OpenSpec.upto fnExactPowerOnSpec)) fnExactPowerOnUptoCard

/-- THE SECOND FORM's CARD OF 'laws.FnExactPowerOff'. -/
def fnExactPowerOffUptoCard : Claim7 := { stood := { row := fnExactPowerOffUptoRow, standIns := [], harness := (true, "d2fe58ceff5da5c139dc6d5e441db7ed0246c6543ae7e36d80d58a60f87e4a7d"), looks := true }, kinds := [], alts := [], laidByText := true, laidKinds := [.data], laidTests := true, laidLooks := .later }
def FnExactPowerOffUptoCardSaid : Prop := Claim7.holds Tryd.pinned (.plain (OpenSpec.upto fnExactPowerOffSpec)) fnExactPowerOffUptoCard

/-- THE SECOND FORM's CARD OF 'laws.FnExactMeasureOf'. -/
def fnExactMeasureOfUptoCard : Claim7 := { stood := { row := fnExactMeasureOfUptoRow, standIns := [], harness := (true, "d2fe58ceff5da5c139dc6d5e441db7ed0246c6543ae7e36d80d58a60f87e4a7d"), looks := true }, kinds := [], alts := [], laidByText := true, laidKinds := [.data, .data, .data, .data], laidTests := true, laidLooks := .later }
def FnExactMeasureOfUptoCardSaid : Prop := Claim7.holds Tryd.pinned (.plain (OpenSpec.upto fnExactMeasureOfSpec)) fnExactMeasureOfUptoCard

/-- THE SECOND FORM's CARD OF 'laws.FnExactDeviceNew'. -/
def fnExactDeviceNewUptoCard : Claim7 := { stood := { row := fnExactDeviceNewUptoRow, standIns := [], harness := (true, "d2fe58ceff5da5c139dc6d5e441db7ed0246c6543ae7e36d80d58a60f87e4a7d"), looks := true }, kinds := [], alts := [], laidByText := true, laidKinds := [.data], laidTests := true, laidLooks := .later }
def FnExactDeviceNewUptoCardSaid : Prop := Claim7.holds Tryd.pinned (.plain (OpenSpec.upto fnExactDeviceNewSpec)) fnExactDeviceNewUptoCard

/-- THE SECOND FORM's CARD OF 'laws.FnFolded'. -/
def fnFoldedUptoCard : Claim7 := { stood := { row := fnFoldedUptoRow, standIns := [], harness := (true, "d2fe58ceff5da5c139dc6d5e441db7ed0246c6543ae7e36d80d58a60f87e4a7d"), looks := true }, kinds := [], alts := [], laidByText := true, laidKinds := [.data], laidTests := true, laidLooks := .later }
def FnFoldedUptoCardSaid : Prop := Claim7.holds Tryd.pinned (.plain (OpenSpec.upto fnFoldedSpec)) fnFoldedUptoCard

/-- THE SECOND FORM's CARD OF 'laws.FnComposites'. -/
def fnCompositesUptoCard : Claim7 := { stood := { row := fnCompositesUptoRow, standIns := [], harness := (true, "d2fe58ceff5da5c139dc6d5e441db7ed0246c6543ae7e36d80d58a60f87e4a7d"), looks := true }, kinds := [], alts := [], laidByText := true, laidKinds := [.data, .data, .data, .data], laidTests := true, laidLooks := .later }
def FnCompositesUptoCardSaid : Prop := Claim7.holds Tryd.pinned (.plain (OpenSpec.upto fnCompositesSpec)) fnCompositesUptoCard
end Rows
end Go.Proofs.YtnlnfjchnjdfoaaDoor
