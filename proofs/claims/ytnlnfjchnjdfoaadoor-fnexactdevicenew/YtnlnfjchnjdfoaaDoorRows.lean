/-
  NARROWER THAN 'FOR EVERY INPUT', by the rows' own cells (each row's printed sentence says how): FnExactExtend: laid · FnExactFold: laid · FnExactRootExtend: laid · FnExactPowerOn: laid · FnExactPowerOff: laid · FnExactMeasureOf: laid · FnExactDeviceNew: laid · FnFolded: laid · FnComposites: laid.
  DERIVED. THE GIVEN ROWS OF THIS SEAT. 9 by the template 'for every input the law returns true; each argument reads behind the call as it read before'; 0 by the template 'total and deterministic' (their statements: YtnlnfjchnjdfoaaDoorTotals.lean).
  GIVEN WITH THE SEED: the statements are not yours to turn. If you find one false, say at which input.
  Laid BY PROGRAM, IN A SANDBOX (cutbox-rows.mjs): the forced cells as the released guide's own fill.sh prints them over the translation 35c23fe477554d73… (all of the seat's roots in one cut). By AI agents, Wed Nov 11 2026. No macro, syntax, notation, axiom, sorry.
-/
import Derived.Test.YtnlnfjchnjdfoaaDoorChecked
import GoSem.Claim
import GoSem.ClaimJoined
import GoSem.ClaimMapViews
import Derived.JoinedTies
import Derived.KernelRfl
namespace Go.Proofs.YtnlnfjchnjdfoaaDoor
/- THE CELL 'sum', in the pinned program and in every row, IS THE sha256 OF THE DUMP (.gsa) THAT YtnlnfjchnjdfoaaDoorProg.lean LOADS. Nothing in Lean hashes anything: it is a label: what it is worth is what the hold of that sum in a sandbox is worth. -/
noncomputable def Tryd.pinned : Pinned := { name := "ytnlnfjchnjdfoaadoor", sum := "35c23fe477554d732db37a5bdee998ac221398c312d4d6b32bc087aa0a6b35e0", checked := Tryd.checked }
namespace Rows
def none {H : Type} : Left H := { results := [], args := [] }

/- WHAT THE LISTED PACKAGE-LEVEL VARIABLES READ AS WHEN THE CALL BEGINS. Each datum BY PROGRAM (the guide's laid-datum.mjs) off the statement by which the dump's own 'gosem.cut.vars' lays the variable. In a bare row this is a premise. The card (YtnlnfjchnjdfoaaDoorCards.lean) ties it to the program's text. -/
def laid_loop_example_g00082_impl_termShapes {H : Type} : DataW H := .agg [.agg [.lit (.string []), .lit (.int .i64 0), .lit (.int .i64 0), .lit (.bool false)], .agg [.lit (.string []), .lit (.int .i64 0), .lit (.int .i64 0), .lit (.bool false)], .agg [.lit (.string []), .lit (.int .i64 0), .lit (.int .i64 0), .lit (.bool false)], .agg [.lit (.string [112, 97, 105, 114]), .lit (.int .i64 2), .lit (.int .i64 2), .lit (.bool false)], .agg [.lit (.string [104, 97, 115, 104]), .lit (.int .i64 1), .lit (.int .i64 8), .lit (.bool false)], .agg [.lit (.string [115, 105, 103, 110]), .lit (.int .i64 2), .lit (.int .i64 2), .lit (.bool true)], .agg [.lit (.string [112, 117, 98]), .lit (.int .i64 1), .lit (.int .i64 1), .lit (.bool true)], .agg [.lit (.string [115, 101, 97, 108]), .lit (.int .i64 2), .lit (.int .i64 2), .lit (.bool false)]]
def laid_math_bits_deBruijn32tab {H : Type} : DataW H := .agg [.lit (.int .u8 0), .lit (.int .u8 1), .lit (.int .u8 28), .lit (.int .u8 2), .lit (.int .u8 29), .lit (.int .u8 14), .lit (.int .u8 24), .lit (.int .u8 3), .lit (.int .u8 30), .lit (.int .u8 22), .lit (.int .u8 20), .lit (.int .u8 15), .lit (.int .u8 25), .lit (.int .u8 17), .lit (.int .u8 4), .lit (.int .u8 8), .lit (.int .u8 31), .lit (.int .u8 27), .lit (.int .u8 13), .lit (.int .u8 23), .lit (.int .u8 21), .lit (.int .u8 19), .lit (.int .u8 16), .lit (.int .u8 7), .lit (.int .u8 26), .lit (.int .u8 12), .lit (.int .u8 18), .lit (.int .u8 6), .lit (.int .u8 11), .lit (.int .u8 5), .lit (.int .u8 10), .lit (.int .u8 9)]
def laid_math_bits_deBruijn64tab {H : Type} : DataW H := .agg [.lit (.int .u8 0), .lit (.int .u8 1), .lit (.int .u8 56), .lit (.int .u8 2), .lit (.int .u8 57), .lit (.int .u8 49), .lit (.int .u8 28), .lit (.int .u8 3), .lit (.int .u8 61), .lit (.int .u8 58), .lit (.int .u8 42), .lit (.int .u8 50), .lit (.int .u8 38), .lit (.int .u8 29), .lit (.int .u8 17), .lit (.int .u8 4), .lit (.int .u8 62), .lit (.int .u8 47), .lit (.int .u8 59), .lit (.int .u8 36), .lit (.int .u8 45), .lit (.int .u8 43), .lit (.int .u8 51), .lit (.int .u8 22), .lit (.int .u8 53), .lit (.int .u8 39), .lit (.int .u8 33), .lit (.int .u8 30), .lit (.int .u8 24), .lit (.int .u8 18), .lit (.int .u8 12), .lit (.int .u8 5), .lit (.int .u8 63), .lit (.int .u8 55), .lit (.int .u8 48), .lit (.int .u8 27), .lit (.int .u8 60), .lit (.int .u8 41), .lit (.int .u8 37), .lit (.int .u8 16), .lit (.int .u8 46), .lit (.int .u8 35), .lit (.int .u8 44), .lit (.int .u8 21), .lit (.int .u8 52), .lit (.int .u8 32), .lit (.int .u8 23), .lit (.int .u8 11), .lit (.int .u8 54), .lit (.int .u8 26), .lit (.int .u8 40), .lit (.int .u8 15), .lit (.int .u8 34), .lit (.int .u8 20), .lit (.int .u8 31), .lit (.int .u8 10), .lit (.int .u8 25), .lit (.int .u8 14), .lit (.int .u8 19), .lit (.int .u8 9), .lit (.int .u8 13), .lit (.int .u8 8), .lit (.int .u8 7), .lit (.int .u8 6)]
def laid_internal_strconv_uint64pow10 {H : Type} : DataW H := .agg [.lit (.int .u64 1), .lit (.int .u64 10), .lit (.int .u64 100), .lit (.int .u64 1000), .lit (.int .u64 10000), .lit (.int .u64 100000), .lit (.int .u64 1000000), .lit (.int .u64 10000000), .lit (.int .u64 100000000), .lit (.int .u64 1000000000), .lit (.int .u64 10000000000), .lit (.int .u64 100000000000), .lit (.int .u64 1000000000000), .lit (.int .u64 10000000000000), .lit (.int .u64 100000000000000), .lit (.int .u64 1000000000000000), .lit (.int .u64 10000000000000000), .lit (.int .u64 100000000000000000), .lit (.int .u64 1000000000000000000), .lit (.int .u64 10000000000000000000)]

/-- 'laws.FnExactExtend': WHATEVER THE INPUT: true; the input reads as it did. -/
def fnExactExtendSpec : ChangeSpec := { name := "fnExactExtend", vars := ["loop.example/g00082/impl.termShapes"], fn := fun _ => fun
  | [d1, d2, d3, g1] => { results := [.lit (.bool true)], args := [d1, d2, d3], vars := [g1] }
  | _ => none }
def fnExactExtendRow : OpenClaim := { program := "ytnlnfjchnjdfoaadoor", sum := "35c23fe477554d732db37a5bdee998ac221398c312d4d6b32bc087aa0a6b35e0", func := "loop.example/g00082/laws.FnExactExtend", spec := "fnExactExtend", inPlace := ["internal/abi.NoEscape", "internal/bytealg.MakeNoZero"], unfollowed := true, recurses := true, named := ["loop.example/g00082/impl.termShapes"], apart := false, laid := [("loop.example/g00082/impl.termShapes", laid_loop_example_g00082_impl_termShapes)] }
def FnExactExtendSaid : Prop := fnExactExtendRow.holds Tryd.pinned (OpenSpec.ofChange fnExactExtendSpec)

/-- ITS FALSE NEIGHBOUR: 'it returns false'. Refute it at one input. -/
def fnExactExtendWrong : ChangeSpec := { name := "fnExactExtend", vars := ["loop.example/g00082/impl.termShapes"], fn := fun _ => fun
  | [d1, d2, d3, g1] => { results := [.lit (.bool false)], args := [d1, d2, d3], vars := [g1] }
  | _ => none }
def FnExactExtendWrongFalsely : Prop := fnExactExtendRow.holds Tryd.pinned (OpenSpec.ofChange fnExactExtendWrong)

/-- 'laws.FnExactFold': WHATEVER THE INPUT: true; the input reads as it did. -/
def fnExactFoldSpec : ChangeSpec := { name := "fnExactFold", vars := ["loop.example/g00082/impl.termShapes"], fn := fun _ => fun
  | [d, g1] => { results := [.lit (.bool true)], args := [d], vars := [g1] }
  | _ => none }
def fnExactFoldRow : OpenClaim := { program := "ytnlnfjchnjdfoaadoor", sum := "35c23fe477554d732db37a5bdee998ac221398c312d4d6b32bc087aa0a6b35e0", func := "loop.example/g00082/laws.FnExactFold", spec := "fnExactFold", inPlace := ["internal/abi.NoEscape", "internal/bytealg.MakeNoZero"], unfollowed := true, recurses := true, named := ["loop.example/g00082/impl.termShapes"], apart := false, laid := [("loop.example/g00082/impl.termShapes", laid_loop_example_g00082_impl_termShapes)] }
def FnExactFoldSaid : Prop := fnExactFoldRow.holds Tryd.pinned (OpenSpec.ofChange fnExactFoldSpec)

/-- ITS FALSE NEIGHBOUR: 'it returns false'. Refute it at one input. -/
def fnExactFoldWrong : ChangeSpec := { name := "fnExactFold", vars := ["loop.example/g00082/impl.termShapes"], fn := fun _ => fun
  | [d, g1] => { results := [.lit (.bool false)], args := [d], vars := [g1] }
  | _ => none }
def FnExactFoldWrongFalsely : Prop := fnExactFoldRow.holds Tryd.pinned (OpenSpec.ofChange fnExactFoldWrong)

/-- 'laws.FnExactRootExtend': WHATEVER THE INPUT: true; the input reads as it did. -/
def fnExactRootExtendSpec : ChangeSpec := { name := "fnExactRootExtend", vars := ["loop.example/g00082/impl.termShapes"], fn := fun _ => fun
  | [d1, d2, d3, g1] => { results := [.lit (.bool true)], args := [d1, d2, d3], vars := [g1] }
  | _ => none }
def fnExactRootExtendRow : OpenClaim := { program := "ytnlnfjchnjdfoaadoor", sum := "35c23fe477554d732db37a5bdee998ac221398c312d4d6b32bc087aa0a6b35e0", func := "loop.example/g00082/laws.FnExactRootExtend", spec := "fnExactRootExtend", unfollowed := true, recurses := true, named := ["loop.example/g00082/impl.termShapes"], apart := false, laid := [("loop.example/g00082/impl.termShapes", laid_loop_example_g00082_impl_termShapes)] }
def FnExactRootExtendSaid : Prop := fnExactRootExtendRow.holds Tryd.pinned (OpenSpec.ofChange fnExactRootExtendSpec)

/-- ITS FALSE NEIGHBOUR: 'it returns false'. Refute it at one input. -/
def fnExactRootExtendWrong : ChangeSpec := { name := "fnExactRootExtend", vars := ["loop.example/g00082/impl.termShapes"], fn := fun _ => fun
  | [d1, d2, d3, g1] => { results := [.lit (.bool false)], args := [d1, d2, d3], vars := [g1] }
  | _ => none }
def FnExactRootExtendWrongFalsely : Prop := fnExactRootExtendRow.holds Tryd.pinned (OpenSpec.ofChange fnExactRootExtendWrong)

/-- 'laws.FnExactPowerOn': WHATEVER THE INPUT: true; the input reads as it did. -/
def fnExactPowerOnSpec : ChangeSpec := { name := "fnExactPowerOn", vars := ["loop.example/g00082/impl.termShapes"], fn := fun _ => fun
  | [d1, d2, g1] => { results := [.lit (.bool true)], args := [d1, d2], vars := [g1] }
  | _ => none }
def fnExactPowerOnRow : OpenClaim := { program := "ytnlnfjchnjdfoaadoor", sum := "35c23fe477554d732db37a5bdee998ac221398c312d4d6b32bc087aa0a6b35e0", func := "loop.example/g00082/laws.FnExactPowerOn", spec := "fnExactPowerOn", unfollowed := true, recurses := true, named := ["loop.example/g00082/impl.termShapes"], apart := false, laid := [("loop.example/g00082/impl.termShapes", laid_loop_example_g00082_impl_termShapes)] }
def FnExactPowerOnSaid : Prop := fnExactPowerOnRow.holds Tryd.pinned (OpenSpec.ofChange fnExactPowerOnSpec)

/-- ITS FALSE NEIGHBOUR: 'it returns false'. Refute it at one input. -/
def fnExactPowerOnWrong : ChangeSpec := { name := "fnExactPowerOn", vars := ["loop.example/g00082/impl.termShapes"], fn := fun _ => fun
  | [d1, d2, g1] => { results := [.lit (.bool false)], args := [d1, d2], vars := [g1] }
  | _ => none }
def FnExactPowerOnWrongFalsely : Prop := fnExactPowerOnRow.holds Tryd.pinned (OpenSpec.ofChange fnExactPowerOnWrong)

/-- 'laws.FnExactPowerOff': WHATEVER THE INPUT: true; the input reads as it did. -/
def fnExactPowerOffSpec : ChangeSpec := { name := "fnExactPowerOff", vars := ["loop.example/g00082/impl.termShapes"], fn := fun _ => fun
  | [d, g1] => { results := [.lit (.bool true)], args := [d], vars := [g1] }
  | _ => none }
def fnExactPowerOffRow : OpenClaim := { program := "ytnlnfjchnjdfoaadoor", sum := "35c23fe477554d732db37a5bdee998ac221398c312d4d6b32bc087aa0a6b35e0", func := "loop.example/g00082/laws.FnExactPowerOff", spec := "fnExactPowerOff", unfollowed := true, recurses := true, named := ["loop.example/g00082/impl.termShapes"], apart := false, laid := [("loop.example/g00082/impl.termShapes", laid_loop_example_g00082_impl_termShapes)] }
def FnExactPowerOffSaid : Prop := fnExactPowerOffRow.holds Tryd.pinned (OpenSpec.ofChange fnExactPowerOffSpec)

/-- ITS FALSE NEIGHBOUR: 'it returns false'. Refute it at one input. -/
def fnExactPowerOffWrong : ChangeSpec := { name := "fnExactPowerOff", vars := ["loop.example/g00082/impl.termShapes"], fn := fun _ => fun
  | [d, g1] => { results := [.lit (.bool false)], args := [d], vars := [g1] }
  | _ => none }
def FnExactPowerOffWrongFalsely : Prop := fnExactPowerOffRow.holds Tryd.pinned (OpenSpec.ofChange fnExactPowerOffWrong)

/-- 'laws.FnExactMeasureOf': WHATEVER THE INPUT: true; the input reads as it did. -/
def fnExactMeasureOfSpec : ChangeSpec := { name := "fnExactMeasureOf", vars := ["loop.example/g00082/impl.termShapes"], fn := fun _ => fun
  | [d1, d2, g1] => { results := [.lit (.bool true)], args := [d1, d2], vars := [g1] }
  | _ => none }
def fnExactMeasureOfRow : OpenClaim := { program := "ytnlnfjchnjdfoaadoor", sum := "35c23fe477554d732db37a5bdee998ac221398c312d4d6b32bc087aa0a6b35e0", func := "loop.example/g00082/laws.FnExactMeasureOf", spec := "fnExactMeasureOf", inPlace := ["internal/abi.NoEscape", "internal/bytealg.MakeNoZero"], unfollowed := true, recurses := true, named := ["internal/strconv.uint64pow10", "math/bits.deBruijn32tab", "math/bits.deBruijn64tab", "loop.example/g00082/impl.termShapes"], apart := false, laid := [("math/bits.deBruijn32tab", laid_math_bits_deBruijn32tab), ("math/bits.deBruijn64tab", laid_math_bits_deBruijn64tab), ("internal/strconv.uint64pow10", laid_internal_strconv_uint64pow10), ("loop.example/g00082/impl.termShapes", laid_loop_example_g00082_impl_termShapes)] }
def FnExactMeasureOfSaid : Prop := fnExactMeasureOfRow.holds Tryd.pinned (OpenSpec.ofChange fnExactMeasureOfSpec)

/-- ITS FALSE NEIGHBOUR: 'it returns false'. Refute it at one input. -/
def fnExactMeasureOfWrong : ChangeSpec := { name := "fnExactMeasureOf", vars := ["loop.example/g00082/impl.termShapes"], fn := fun _ => fun
  | [d1, d2, g1] => { results := [.lit (.bool false)], args := [d1, d2], vars := [g1] }
  | _ => none }
def FnExactMeasureOfWrongFalsely : Prop := fnExactMeasureOfRow.holds Tryd.pinned (OpenSpec.ofChange fnExactMeasureOfWrong)

/-- 'laws.FnExactDeviceNew': WHATEVER THE INPUT: true; the input reads as it did. -/
def fnExactDeviceNewSpec : ChangeSpec := { name := "fnExactDeviceNew", vars := ["loop.example/g00082/impl.termShapes"], fn := fun _ => fun
  | [d1, d2, g1] => { results := [.lit (.bool true)], args := [d1, d2], vars := [g1] }
  | _ => none }
def fnExactDeviceNewRow : OpenClaim := { program := "ytnlnfjchnjdfoaadoor", sum := "35c23fe477554d732db37a5bdee998ac221398c312d4d6b32bc087aa0a6b35e0", func := "loop.example/g00082/laws.FnExactDeviceNew", spec := "fnExactDeviceNew", unfollowed := true, recurses := true, named := ["loop.example/g00082/impl.termShapes"], apart := false, laid := [("loop.example/g00082/impl.termShapes", laid_loop_example_g00082_impl_termShapes)] }
def FnExactDeviceNewSaid : Prop := fnExactDeviceNewRow.holds Tryd.pinned (OpenSpec.ofChange fnExactDeviceNewSpec)

/-- ITS FALSE NEIGHBOUR: 'it returns false'. Refute it at one input. -/
def fnExactDeviceNewWrong : ChangeSpec := { name := "fnExactDeviceNew", vars := ["loop.example/g00082/impl.termShapes"], fn := fun _ => fun
  | [d1, d2, g1] => { results := [.lit (.bool false)], args := [d1, d2], vars := [g1] }
  | _ => none }
def FnExactDeviceNewWrongFalsely : Prop := fnExactDeviceNewRow.holds Tryd.pinned (OpenSpec.ofChange fnExactDeviceNewWrong)

/-- 'laws.FnFolded': WHATEVER THE INPUT: true; the input reads as it did. -/
def fnFoldedSpec : ChangeSpec := { name := "fnFolded", vars := ["loop.example/g00082/impl.termShapes"], fn := fun _ => fun
  | [d, g1] => { results := [.lit (.bool true)], args := [d], vars := [g1] }
  | _ => none }
def fnFoldedRow : OpenClaim := { program := "ytnlnfjchnjdfoaadoor", sum := "35c23fe477554d732db37a5bdee998ac221398c312d4d6b32bc087aa0a6b35e0", func := "loop.example/g00082/laws.FnFolded", spec := "fnFolded", inPlace := ["internal/abi.NoEscape", "internal/bytealg.MakeNoZero"], unfollowed := true, recurses := true, named := ["loop.example/g00082/impl.termShapes"], apart := false, laid := [("loop.example/g00082/impl.termShapes", laid_loop_example_g00082_impl_termShapes)] }
def FnFoldedSaid : Prop := fnFoldedRow.holds Tryd.pinned (OpenSpec.ofChange fnFoldedSpec)

/-- ITS FALSE NEIGHBOUR: 'it returns false'. Refute it at one input. -/
def fnFoldedWrong : ChangeSpec := { name := "fnFolded", vars := ["loop.example/g00082/impl.termShapes"], fn := fun _ => fun
  | [d, g1] => { results := [.lit (.bool false)], args := [d], vars := [g1] }
  | _ => none }
def FnFoldedWrongFalsely : Prop := fnFoldedRow.holds Tryd.pinned (OpenSpec.ofChange fnFoldedWrong)

/-- 'laws.FnComposites': WHATEVER THE INPUT: true; the input reads as it did. -/
def fnCompositesSpec : ChangeSpec := { name := "fnComposites", vars := ["loop.example/g00082/impl.termShapes"], fn := fun _ => fun
  | [d1, d2, g1] => { results := [.lit (.bool true)], args := [d1, d2], vars := [g1] }
  | _ => none }
def fnCompositesRow : OpenClaim := { program := "ytnlnfjchnjdfoaadoor", sum := "35c23fe477554d732db37a5bdee998ac221398c312d4d6b32bc087aa0a6b35e0", func := "loop.example/g00082/laws.FnComposites", spec := "fnComposites", inPlace := ["internal/abi.NoEscape", "internal/bytealg.MakeNoZero"], unfollowed := true, recurses := true, named := ["loop.example/g00082/impl.termShapes", "internal/strconv.uint64pow10", "math/bits.deBruijn32tab", "math/bits.deBruijn64tab"], apart := false, laid := [("math/bits.deBruijn32tab", laid_math_bits_deBruijn32tab), ("math/bits.deBruijn64tab", laid_math_bits_deBruijn64tab), ("internal/strconv.uint64pow10", laid_internal_strconv_uint64pow10), ("loop.example/g00082/impl.termShapes", laid_loop_example_g00082_impl_termShapes)] }
def FnCompositesSaid : Prop := fnCompositesRow.holds Tryd.pinned (OpenSpec.ofChange fnCompositesSpec)

/-- ITS FALSE NEIGHBOUR: 'it returns false'. Refute it at one input. -/
def fnCompositesWrong : ChangeSpec := { name := "fnComposites", vars := ["loop.example/g00082/impl.termShapes"], fn := fun _ => fun
  | [d1, d2, g1] => { results := [.lit (.bool false)], args := [d1, d2], vars := [g1] }
  | _ => none }
def FnCompositesWrongFalsely : Prop := fnCompositesRow.holds Tryd.pinned (OpenSpec.ofChange fnCompositesWrong)

/- THE SECOND FORM. 'bulk': how many values and letters a reading holds, each counted each time it is reached (what is shared counts as often as it is met; a slice's spare places count too). A statement '..UptoSaid' is the law's where the arguments, and the package variables that the reading takes, are together of bulk at most 1048576: NARROWER than '..Said'. Prove '..Said' where nothing that the law and all that it calls make is longer than what came in: it says more and counts as full. Else prove '..UptoSaid'. A law counts once. -/
mutual
def uptoBulk {H : Type} : DataW H → Nat
  | .lit (.string bytes) => bytes.length + 1
  | .lit _ => 1
  | .nil => 1
  | .ptr d => uptoBulk d + 1
  | .slice elems spare => uptoBulkAll elems + uptoBulkAll spare + 1
  | .agg parts => uptoBulkAll parts + 1
  | .iface _ d => uptoBulk d + 1
  | .map entries => uptoBulkEntries entries + 1
  | .held _ => 1
def uptoBulkAll {H : Type} : List (DataW H) → Nat
  | [] => 0
  | d :: r => uptoBulk d + uptoBulkAll r
def uptoBulkEntries {H : Type} : List (Lit × DataW H) → Nat
  | [] => 0
  | x :: r => uptoBulkEntry x + uptoBulkEntries r
def uptoBulkEntry {H : Type} : Lit × DataW H → Nat
  | (.string bytes, d) => bytes.length + uptoBulk d + 1
  | (_, d) => uptoBulk d + 1
 end
def uptoSmall : (H : Type) → List (DataW H) → Bool := fun _ ds => decide (uptoBulkAll ds ≤ 1048576)
def OpenSpec.upto (s : _root_.Go.ChangeSpec) : _root_.Go.OpenSpec := { _root_.Go.OpenSpec.ofChange s with cond := some uptoSmall }

/-- 'laws.FnExactExtend', WHERE WHAT IT READS IS OF BULK AT MOST 1048576: true; the input reads as it did. -/
def fnExactExtendUptoRow : OpenClaim := { program := "ytnlnfjchnjdfoaadoor", sum := "35c23fe477554d732db37a5bdee998ac221398c312d4d6b32bc087aa0a6b35e0", func := "loop.example/g00082/laws.FnExactExtend", spec := "fnExactExtend", inPlace := ["internal/abi.NoEscape", "internal/bytealg.MakeNoZero"], unfollowed := true, recurses := true, named := ["loop.example/g00082/impl.termShapes"], apart := false, laid := [("loop.example/g00082/impl.termShapes", laid_loop_example_g00082_impl_termShapes)], narrowed := true }
def FnExactExtendUptoSaid : Prop := fnExactExtendUptoRow.holds Tryd.pinned (OpenSpec.upto fnExactExtendSpec)

/-- 'laws.FnExactFold', WHERE WHAT IT READS IS OF BULK AT MOST 1048576: true; the input reads as it did. -/
def fnExactFoldUptoRow : OpenClaim := { program := "ytnlnfjchnjdfoaadoor", sum := "35c23fe477554d732db37a5bdee998ac221398c312d4d6b32bc087aa0a6b35e0", func := "loop.example/g00082/laws.FnExactFold", spec := "fnExactFold", inPlace := ["internal/abi.NoEscape", "internal/bytealg.MakeNoZero"], unfollowed := true, recurses := true, named := ["loop.example/g00082/impl.termShapes"], apart := false, laid := [("loop.example/g00082/impl.termShapes", laid_loop_example_g00082_impl_termShapes)], narrowed := true }
def FnExactFoldUptoSaid : Prop := fnExactFoldUptoRow.holds Tryd.pinned (OpenSpec.upto fnExactFoldSpec)

/-- 'laws.FnExactRootExtend', WHERE WHAT IT READS IS OF BULK AT MOST 1048576: true; the input reads as it did. -/
def fnExactRootExtendUptoRow : OpenClaim := { program := "ytnlnfjchnjdfoaadoor", sum := "35c23fe477554d732db37a5bdee998ac221398c312d4d6b32bc087aa0a6b35e0", func := "loop.example/g00082/laws.FnExactRootExtend", spec := "fnExactRootExtend", unfollowed := true, recurses := true, named := ["loop.example/g00082/impl.termShapes"], apart := false, laid := [("loop.example/g00082/impl.termShapes", laid_loop_example_g00082_impl_termShapes)], narrowed := true }
def FnExactRootExtendUptoSaid : Prop := fnExactRootExtendUptoRow.holds Tryd.pinned (OpenSpec.upto fnExactRootExtendSpec)

/-- 'laws.FnExactPowerOn', WHERE WHAT IT READS IS OF BULK AT MOST 1048576: true; the input reads as it did. -/
def fnExactPowerOnUptoRow : OpenClaim := { program := "ytnlnfjchnjdfoaadoor", sum := "35c23fe477554d732db37a5bdee998ac221398c312d4d6b32bc087aa0a6b35e0", func := "loop.example/g00082/laws.FnExactPowerOn", spec := "fnExactPowerOn", unfollowed := true, recurses := true, named := ["loop.example/g00082/impl.termShapes"], apart := false, laid := [("loop.example/g00082/impl.termShapes", laid_loop_example_g00082_impl_termShapes)], narrowed := true }
def FnExactPowerOnUptoSaid : Prop := fnExactPowerOnUptoRow.holds Tryd.pinned (OpenSpec.upto fnExactPowerOnSpec)

/-- 'laws.FnExactPowerOff', WHERE WHAT IT READS IS OF BULK AT MOST 1048576: true; the input reads as it did. -/
def fnExactPowerOffUptoRow : OpenClaim := { program := "ytnlnfjchnjdfoaadoor", sum := "35c23fe477554d732db37a5bdee998ac221398c312d4d6b32bc087aa0a6b35e0", func := "loop.example/g00082/laws.FnExactPowerOff", spec := "fnExactPowerOff", unfollowed := true, recurses := true, named := ["loop.example/g00082/impl.termShapes"], apart := false, laid := [("loop.example/g00082/impl.termShapes", laid_loop_example_g00082_impl_termShapes)], narrowed := true }
def FnExactPowerOffUptoSaid : Prop := fnExactPowerOffUptoRow.holds Tryd.pinned (OpenSpec.upto fnExactPowerOffSpec)

/-- 'laws.FnExactMeasureOf', WHERE WHAT IT READS IS OF BULK AT MOST 1048576: true; the input reads as it did. -/
def fnExactMeasureOfUptoRow : OpenClaim := { program := "ytnlnfjchnjdfoaadoor", sum := "35c23fe477554d732db37a5bdee998ac221398c312d4d6b32bc087aa0a6b35e0", func := "loop.example/g00082/laws.FnExactMeasureOf", spec := "fnExactMeasureOf", inPlace := ["internal/abi.NoEscape", "internal/bytealg.MakeNoZero"], unfollowed := true, recurses := true, named := ["internal/strconv.uint64pow10", "math/bits.deBruijn32tab", "math/bits.deBruijn64tab", "loop.example/g00082/impl.termShapes"], apart := false, laid := [("math/bits.deBruijn32tab", laid_math_bits_deBruijn32tab), ("math/bits.deBruijn64tab", laid_math_bits_deBruijn64tab), ("internal/strconv.uint64pow10", laid_internal_strconv_uint64pow10), ("loop.example/g00082/impl.termShapes", laid_loop_example_g00082_impl_termShapes)], narrowed := true }
def FnExactMeasureOfUptoSaid : Prop := fnExactMeasureOfUptoRow.holds Tryd.pinned (OpenSpec.upto fnExactMeasureOfSpec)

/-- 'laws.FnExactDeviceNew', WHERE WHAT IT READS IS OF BULK AT MOST 1048576: true; the input reads as it did. -/
def fnExactDeviceNewUptoRow : OpenClaim := { program := "ytnlnfjchnjdfoaadoor", sum := "35c23fe477554d732db37a5bdee998ac221398c312d4d6b32bc087aa0a6b35e0", func := "loop.example/g00082/laws.FnExactDeviceNew", spec := "fnExactDeviceNew", unfollowed := true, recurses := true, named := ["loop.example/g00082/impl.termShapes"], apart := false, laid := [("loop.example/g00082/impl.termShapes", laid_loop_example_g00082_impl_termShapes)], narrowed := true }
def FnExactDeviceNewUptoSaid : Prop := fnExactDeviceNewUptoRow.holds Tryd.pinned (OpenSpec.upto fnExactDeviceNewSpec)

/-- 'laws.FnFolded', WHERE WHAT IT READS IS OF BULK AT MOST 1048576: true; the input reads as it did. -/
def fnFoldedUptoRow : OpenClaim := { program := "ytnlnfjchnjdfoaadoor", sum := "35c23fe477554d732db37a5bdee998ac221398c312d4d6b32bc087aa0a6b35e0", func := "loop.example/g00082/laws.FnFolded", spec := "fnFolded", inPlace := ["internal/abi.NoEscape", "internal/bytealg.MakeNoZero"], unfollowed := true, recurses := true, named := ["loop.example/g00082/impl.termShapes"], apart := false, laid := [("loop.example/g00082/impl.termShapes", laid_loop_example_g00082_impl_termShapes)], narrowed := true }
def FnFoldedUptoSaid : Prop := fnFoldedUptoRow.holds Tryd.pinned (OpenSpec.upto fnFoldedSpec)

/-- 'laws.FnComposites', WHERE WHAT IT READS IS OF BULK AT MOST 1048576: true; the input reads as it did. -/
def fnCompositesUptoRow : OpenClaim := { program := "ytnlnfjchnjdfoaadoor", sum := "35c23fe477554d732db37a5bdee998ac221398c312d4d6b32bc087aa0a6b35e0", func := "loop.example/g00082/laws.FnComposites", spec := "fnComposites", inPlace := ["internal/abi.NoEscape", "internal/bytealg.MakeNoZero"], unfollowed := true, recurses := true, named := ["loop.example/g00082/impl.termShapes", "internal/strconv.uint64pow10", "math/bits.deBruijn32tab", "math/bits.deBruijn64tab"], apart := false, laid := [("math/bits.deBruijn32tab", laid_math_bits_deBruijn32tab), ("math/bits.deBruijn64tab", laid_math_bits_deBruijn64tab), ("internal/strconv.uint64pow10", laid_internal_strconv_uint64pow10), ("loop.example/g00082/impl.termShapes", laid_loop_example_g00082_impl_termShapes)], narrowed := true }
def FnCompositesUptoSaid : Prop := fnCompositesUptoRow.holds Tryd.pinned (OpenSpec.upto fnCompositesSpec)

end Rows
end Go.Proofs.YtnlnfjchnjdfoaaDoor
