/-
  NARROWER THAN 'FOR EVERY INPUT', by the rows' own cells (each row's printed sentence says how): FnExactAskFor: laid · FnExactWriteLog: laid · FnExactPutSeal: laid · FnExactDemand: laid · FnExactPass: laid · FnAsked: laid · FnLogBack: laid · FnRenewed: laid · FnChained: laid · FnComposites: laid · FnSealedWhole: laid · FnExactMend: laid.
  DERIVED. THE GIVEN ROWS OF THIS SEAT. 12 by the template 'for every input the law returns true; each argument reads behind the call as it read before'; 0 by the template 'total and deterministic' (their statements: YtedbhlihdfaaaaaDoorTotals.lean).
  GIVEN WITH THE SEED: the statements are not yours to turn. If you find one false, say at which input.
  Laid BY PROGRAM, IN A SANDBOX (cutbox-rows.mjs): the forced cells as the released guide's own fill.sh prints them over the translation 74aaa61b4be64b86… (all of the seat's roots in one cut). By AI agents, Wed Nov 11 2026. No macro, syntax, notation, axiom, sorry.
-/
import Derived.Test.YtedbhlihdfaaaaaDoorChecked
import GoSem.Claim
import GoSem.ClaimJoined
import GoSem.ClaimMapViews
import Derived.JoinedTies
import Derived.KernelRfl
namespace Go.Proofs.YtedbhlihdfaaaaaDoor
/- THE CELL 'sum', in the pinned program and in every row, IS THE sha256 OF THE DUMP (.gsa) THAT YtedbhlihdfaaaaaDoorProg.lean LOADS. Nothing in Lean hashes anything: it is a label: what it is worth is what the hold of that sum in a sandbox is worth. -/
noncomputable def Tryd.pinned : Pinned := { name := "ytedbhlihdfaaaaadoor", sum := "74aaa61b4be64b868b7d9d4c31980be88baf67448025bfe05b921517e836cab9", checked := Tryd.checked }
namespace Rows
def none {H : Type} : Left H := { results := [], args := [] }

/- WHAT THE LISTED PACKAGE-LEVEL VARIABLES READ AS WHEN THE CALL BEGINS. Each datum BY PROGRAM (the guide's laid-datum.mjs) off the statement by which the dump's own 'gosem.cut.vars' lays the variable. In a bare row this is a premise. The card (YtedbhlihdfaaaaaDoorCards.lean) ties it to the program's text. -/
def laid_loop_example_g00082_impl_termShapes {H : Type} : DataW H := .agg [.agg [.lit (.string []), .lit (.int .i64 0), .lit (.int .i64 0), .lit (.bool false)], .agg [.lit (.string []), .lit (.int .i64 0), .lit (.int .i64 0), .lit (.bool false)], .agg [.lit (.string []), .lit (.int .i64 0), .lit (.int .i64 0), .lit (.bool false)], .agg [.lit (.string [112, 97, 105, 114]), .lit (.int .i64 2), .lit (.int .i64 2), .lit (.bool false)], .agg [.lit (.string [104, 97, 115, 104]), .lit (.int .i64 1), .lit (.int .i64 8), .lit (.bool false)], .agg [.lit (.string [115, 105, 103, 110]), .lit (.int .i64 2), .lit (.int .i64 2), .lit (.bool true)], .agg [.lit (.string [112, 117, 98]), .lit (.int .i64 1), .lit (.int .i64 1), .lit (.bool true)], .agg [.lit (.string [115, 101, 97, 108]), .lit (.int .i64 2), .lit (.int .i64 2), .lit (.bool false)]]
def laid_math_bits_deBruijn32tab {H : Type} : DataW H := .agg [.lit (.int .u8 0), .lit (.int .u8 1), .lit (.int .u8 28), .lit (.int .u8 2), .lit (.int .u8 29), .lit (.int .u8 14), .lit (.int .u8 24), .lit (.int .u8 3), .lit (.int .u8 30), .lit (.int .u8 22), .lit (.int .u8 20), .lit (.int .u8 15), .lit (.int .u8 25), .lit (.int .u8 17), .lit (.int .u8 4), .lit (.int .u8 8), .lit (.int .u8 31), .lit (.int .u8 27), .lit (.int .u8 13), .lit (.int .u8 23), .lit (.int .u8 21), .lit (.int .u8 19), .lit (.int .u8 16), .lit (.int .u8 7), .lit (.int .u8 26), .lit (.int .u8 12), .lit (.int .u8 18), .lit (.int .u8 6), .lit (.int .u8 11), .lit (.int .u8 5), .lit (.int .u8 10), .lit (.int .u8 9)]
def laid_math_bits_deBruijn64tab {H : Type} : DataW H := .agg [.lit (.int .u8 0), .lit (.int .u8 1), .lit (.int .u8 56), .lit (.int .u8 2), .lit (.int .u8 57), .lit (.int .u8 49), .lit (.int .u8 28), .lit (.int .u8 3), .lit (.int .u8 61), .lit (.int .u8 58), .lit (.int .u8 42), .lit (.int .u8 50), .lit (.int .u8 38), .lit (.int .u8 29), .lit (.int .u8 17), .lit (.int .u8 4), .lit (.int .u8 62), .lit (.int .u8 47), .lit (.int .u8 59), .lit (.int .u8 36), .lit (.int .u8 45), .lit (.int .u8 43), .lit (.int .u8 51), .lit (.int .u8 22), .lit (.int .u8 53), .lit (.int .u8 39), .lit (.int .u8 33), .lit (.int .u8 30), .lit (.int .u8 24), .lit (.int .u8 18), .lit (.int .u8 12), .lit (.int .u8 5), .lit (.int .u8 63), .lit (.int .u8 55), .lit (.int .u8 48), .lit (.int .u8 27), .lit (.int .u8 60), .lit (.int .u8 41), .lit (.int .u8 37), .lit (.int .u8 16), .lit (.int .u8 46), .lit (.int .u8 35), .lit (.int .u8 44), .lit (.int .u8 21), .lit (.int .u8 52), .lit (.int .u8 32), .lit (.int .u8 23), .lit (.int .u8 11), .lit (.int .u8 54), .lit (.int .u8 26), .lit (.int .u8 40), .lit (.int .u8 15), .lit (.int .u8 34), .lit (.int .u8 20), .lit (.int .u8 31), .lit (.int .u8 10), .lit (.int .u8 25), .lit (.int .u8 14), .lit (.int .u8 19), .lit (.int .u8 9), .lit (.int .u8 13), .lit (.int .u8 8), .lit (.int .u8 7), .lit (.int .u8 6)]
def laid_internal_strconv_uint64pow10 {H : Type} : DataW H := .agg [.lit (.int .u64 1), .lit (.int .u64 10), .lit (.int .u64 100), .lit (.int .u64 1000), .lit (.int .u64 10000), .lit (.int .u64 100000), .lit (.int .u64 1000000), .lit (.int .u64 10000000), .lit (.int .u64 100000000), .lit (.int .u64 1000000000), .lit (.int .u64 10000000000), .lit (.int .u64 100000000000), .lit (.int .u64 1000000000000), .lit (.int .u64 10000000000000), .lit (.int .u64 100000000000000), .lit (.int .u64 1000000000000000), .lit (.int .u64 10000000000000000), .lit (.int .u64 100000000000000000), .lit (.int .u64 1000000000000000000), .lit (.int .u64 10000000000000000000)]

/-- 'laws.FnExactAskFor': WHATEVER THE INPUT: true; the input reads as it did. -/
def fnExactAskForSpec : ChangeSpec := { name := "fnExactAskFor", vars := ["loop.example/g00082/impl.termShapes"], fn := fun _ => fun
  | [d1, d2, g1] => { results := [.lit (.bool true)], args := [d1, d2], vars := [g1] }
  | _ => none }
def fnExactAskForRow : OpenClaim := { program := "ytedbhlihdfaaaaadoor", sum := "74aaa61b4be64b868b7d9d4c31980be88baf67448025bfe05b921517e836cab9", func := "loop.example/g00082/laws.FnExactAskFor", spec := "fnExactAskFor", unfollowed := true, recurses := true, named := ["loop.example/g00082/impl.termShapes"], plainKeys := false, apart := false, laid := [("loop.example/g00082/impl.termShapes", laid_loop_example_g00082_impl_termShapes)] }
def FnExactAskForSaid : Prop := fnExactAskForRow.holds Tryd.pinned (OpenSpec.ofChange fnExactAskForSpec)

/-- ITS FALSE NEIGHBOUR: 'it returns false'. Refute it at one input. -/
def fnExactAskForWrong : ChangeSpec := { name := "fnExactAskFor", vars := ["loop.example/g00082/impl.termShapes"], fn := fun _ => fun
  | [d1, d2, g1] => { results := [.lit (.bool false)], args := [d1, d2], vars := [g1] }
  | _ => none }
def FnExactAskForWrongFalsely : Prop := fnExactAskForRow.holds Tryd.pinned (OpenSpec.ofChange fnExactAskForWrong)

/-- 'laws.FnExactWriteLog': WHATEVER THE INPUT: true; the input reads as it did. -/
def fnExactWriteLogSpec : ChangeSpec := { name := "fnExactWriteLog", vars := ["loop.example/g00082/impl.termShapes"], fn := fun _ => fun
  | [d, g1] => { results := [.lit (.bool true)], args := [d], vars := [g1] }
  | _ => none }
def fnExactWriteLogRow : OpenClaim := { program := "ytedbhlihdfaaaaadoor", sum := "74aaa61b4be64b868b7d9d4c31980be88baf67448025bfe05b921517e836cab9", func := "loop.example/g00082/laws.FnExactWriteLog", spec := "fnExactWriteLog", unfollowed := true, recurses := true, named := ["loop.example/g00082/impl.termShapes"], plainKeys := false, apart := false, laid := [("loop.example/g00082/impl.termShapes", laid_loop_example_g00082_impl_termShapes)] }
def FnExactWriteLogSaid : Prop := fnExactWriteLogRow.holds Tryd.pinned (OpenSpec.ofChange fnExactWriteLogSpec)

/-- ITS FALSE NEIGHBOUR: 'it returns false'. Refute it at one input. -/
def fnExactWriteLogWrong : ChangeSpec := { name := "fnExactWriteLog", vars := ["loop.example/g00082/impl.termShapes"], fn := fun _ => fun
  | [d, g1] => { results := [.lit (.bool false)], args := [d], vars := [g1] }
  | _ => none }
def FnExactWriteLogWrongFalsely : Prop := fnExactWriteLogRow.holds Tryd.pinned (OpenSpec.ofChange fnExactWriteLogWrong)

/-- 'laws.FnExactPutSeal': WHATEVER THE INPUT: true; the input reads as it did. -/
def fnExactPutSealSpec : ChangeSpec := { name := "fnExactPutSeal", vars := ["loop.example/g00082/impl.termShapes"], fn := fun _ => fun
  | [d1, d2, d3, g1] => { results := [.lit (.bool true)], args := [d1, d2, d3], vars := [g1] }
  | _ => none }
def fnExactPutSealRow : OpenClaim := { program := "ytedbhlihdfaaaaadoor", sum := "74aaa61b4be64b868b7d9d4c31980be88baf67448025bfe05b921517e836cab9", func := "loop.example/g00082/laws.FnExactPutSeal", spec := "fnExactPutSeal", unfollowed := true, recurses := true, named := ["loop.example/g00082/impl.termShapes"], plainKeys := false, apart := false, laid := [("loop.example/g00082/impl.termShapes", laid_loop_example_g00082_impl_termShapes)] }
def FnExactPutSealSaid : Prop := fnExactPutSealRow.holds Tryd.pinned (OpenSpec.ofChange fnExactPutSealSpec)

/-- ITS FALSE NEIGHBOUR: 'it returns false'. Refute it at one input. -/
def fnExactPutSealWrong : ChangeSpec := { name := "fnExactPutSeal", vars := ["loop.example/g00082/impl.termShapes"], fn := fun _ => fun
  | [d1, d2, d3, g1] => { results := [.lit (.bool false)], args := [d1, d2, d3], vars := [g1] }
  | _ => none }
def FnExactPutSealWrongFalsely : Prop := fnExactPutSealRow.holds Tryd.pinned (OpenSpec.ofChange fnExactPutSealWrong)

/-- 'laws.FnExactDemand': WHATEVER THE INPUT: true; the input reads as it did. -/
def fnExactDemandSpec : ChangeSpec := { name := "fnExactDemand", vars := ["loop.example/g00082/impl.termShapes"], fn := fun _ => fun
  | [d1, d2, d3, d4, g1] => { results := [.lit (.bool true)], args := [d1, d2, d3, d4], vars := [g1] }
  | _ => none }
def fnExactDemandRow : OpenClaim := { program := "ytedbhlihdfaaaaadoor", sum := "74aaa61b4be64b868b7d9d4c31980be88baf67448025bfe05b921517e836cab9", func := "loop.example/g00082/laws.FnExactDemand", spec := "fnExactDemand", unfollowed := true, recurses := true, named := ["internal/strconv.uint64pow10", "math/bits.deBruijn32tab", "math/bits.deBruijn64tab", "loop.example/g00082/impl.termShapes"], plainKeys := false, apart := false, laid := [("math/bits.deBruijn32tab", laid_math_bits_deBruijn32tab), ("math/bits.deBruijn64tab", laid_math_bits_deBruijn64tab), ("internal/strconv.uint64pow10", laid_internal_strconv_uint64pow10), ("loop.example/g00082/impl.termShapes", laid_loop_example_g00082_impl_termShapes)] }
def FnExactDemandSaid : Prop := fnExactDemandRow.holds Tryd.pinned (OpenSpec.ofChange fnExactDemandSpec)

/-- ITS FALSE NEIGHBOUR: 'it returns false'. Refute it at one input. -/
def fnExactDemandWrong : ChangeSpec := { name := "fnExactDemand", vars := ["loop.example/g00082/impl.termShapes"], fn := fun _ => fun
  | [d1, d2, d3, d4, g1] => { results := [.lit (.bool false)], args := [d1, d2, d3, d4], vars := [g1] }
  | _ => none }
def FnExactDemandWrongFalsely : Prop := fnExactDemandRow.holds Tryd.pinned (OpenSpec.ofChange fnExactDemandWrong)

/-- 'laws.FnExactPass': WHATEVER THE INPUT: true; the input reads as it did. -/
def fnExactPassSpec : ChangeSpec := { name := "fnExactPass", vars := ["loop.example/g00082/impl.termShapes"], fn := fun _ => fun
  | [d1, d2, g1] => { results := [.lit (.bool true)], args := [d1, d2], vars := [g1] }
  | _ => none }
def fnExactPassRow : OpenClaim := { program := "ytedbhlihdfaaaaadoor", sum := "74aaa61b4be64b868b7d9d4c31980be88baf67448025bfe05b921517e836cab9", func := "loop.example/g00082/laws.FnExactPass", spec := "fnExactPass", inPlace := ["internal/abi.NoEscape", "internal/bytealg.MakeNoZero"], unfollowed := true, recurses := true, named := ["loop.example/g00082/impl.termShapes", "internal/strconv.uint64pow10", "math/bits.deBruijn32tab", "math/bits.deBruijn64tab"], plainKeys := false, apart := false, laid := [("math/bits.deBruijn32tab", laid_math_bits_deBruijn32tab), ("math/bits.deBruijn64tab", laid_math_bits_deBruijn64tab), ("internal/strconv.uint64pow10", laid_internal_strconv_uint64pow10), ("loop.example/g00082/impl.termShapes", laid_loop_example_g00082_impl_termShapes)] }
def FnExactPassSaid : Prop := fnExactPassRow.holds Tryd.pinned (OpenSpec.ofChange fnExactPassSpec)

/-- ITS FALSE NEIGHBOUR: 'it returns false'. Refute it at one input. -/
def fnExactPassWrong : ChangeSpec := { name := "fnExactPass", vars := ["loop.example/g00082/impl.termShapes"], fn := fun _ => fun
  | [d1, d2, g1] => { results := [.lit (.bool false)], args := [d1, d2], vars := [g1] }
  | _ => none }
def FnExactPassWrongFalsely : Prop := fnExactPassRow.holds Tryd.pinned (OpenSpec.ofChange fnExactPassWrong)

/-- 'laws.FnAsked': WHATEVER THE INPUT: true; the input reads as it did. -/
def fnAskedSpec : ChangeSpec := { name := "fnAsked", vars := ["loop.example/g00082/impl.termShapes"], fn := fun _ => fun
  | [d, g1] => { results := [.lit (.bool true)], args := [d], vars := [g1] }
  | _ => none }
def fnAskedRow : OpenClaim := { program := "ytedbhlihdfaaaaadoor", sum := "74aaa61b4be64b868b7d9d4c31980be88baf67448025bfe05b921517e836cab9", func := "loop.example/g00082/laws.FnAsked", spec := "fnAsked", unfollowed := true, recurses := true, named := ["loop.example/g00082/impl.termShapes"], plainKeys := false, apart := false, laid := [("loop.example/g00082/impl.termShapes", laid_loop_example_g00082_impl_termShapes)] }
def FnAskedSaid : Prop := fnAskedRow.holds Tryd.pinned (OpenSpec.ofChange fnAskedSpec)

/-- ITS FALSE NEIGHBOUR: 'it returns false'. Refute it at one input. -/
def fnAskedWrong : ChangeSpec := { name := "fnAsked", vars := ["loop.example/g00082/impl.termShapes"], fn := fun _ => fun
  | [d, g1] => { results := [.lit (.bool false)], args := [d], vars := [g1] }
  | _ => none }
def FnAskedWrongFalsely : Prop := fnAskedRow.holds Tryd.pinned (OpenSpec.ofChange fnAskedWrong)

/-- 'laws.FnLogBack': WHATEVER THE INPUT: true; the input reads as it did. -/
def fnLogBackSpec : ChangeSpec := { name := "fnLogBack", vars := ["loop.example/g00082/impl.termShapes"], fn := fun _ => fun
  | [d1, d2, g1] => { results := [.lit (.bool true)], args := [d1, d2], vars := [g1] }
  | _ => none }
def fnLogBackRow : OpenClaim := { program := "ytedbhlihdfaaaaadoor", sum := "74aaa61b4be64b868b7d9d4c31980be88baf67448025bfe05b921517e836cab9", func := "loop.example/g00082/laws.FnLogBack", spec := "fnLogBack", unfollowed := true, recurses := true, named := ["loop.example/g00082/impl.termShapes"], plainKeys := false, apart := false, laid := [("loop.example/g00082/impl.termShapes", laid_loop_example_g00082_impl_termShapes)] }
def FnLogBackSaid : Prop := fnLogBackRow.holds Tryd.pinned (OpenSpec.ofChange fnLogBackSpec)

/-- ITS FALSE NEIGHBOUR: 'it returns false'. Refute it at one input. -/
def fnLogBackWrong : ChangeSpec := { name := "fnLogBack", vars := ["loop.example/g00082/impl.termShapes"], fn := fun _ => fun
  | [d1, d2, g1] => { results := [.lit (.bool false)], args := [d1, d2], vars := [g1] }
  | _ => none }
def FnLogBackWrongFalsely : Prop := fnLogBackRow.holds Tryd.pinned (OpenSpec.ofChange fnLogBackWrong)

/-- 'laws.FnRenewed': WHATEVER THE INPUT: true; the input reads as it did. -/
def fnRenewedSpec : ChangeSpec := { name := "fnRenewed", vars := ["loop.example/g00082/impl.termShapes"], fn := fun _ => fun
  | [d1, d2, g1] => { results := [.lit (.bool true)], args := [d1, d2], vars := [g1] }
  | _ => none }
def fnRenewedRow : OpenClaim := { program := "ytedbhlihdfaaaaadoor", sum := "74aaa61b4be64b868b7d9d4c31980be88baf67448025bfe05b921517e836cab9", func := "loop.example/g00082/laws.FnRenewed", spec := "fnRenewed", inPlace := ["internal/abi.NoEscape", "internal/bytealg.MakeNoZero"], unfollowed := true, recurses := true, named := ["internal/strconv.uint64pow10", "math/bits.deBruijn32tab", "math/bits.deBruijn64tab", "loop.example/g00082/impl.termShapes"], plainKeys := false, apart := false, laid := [("math/bits.deBruijn32tab", laid_math_bits_deBruijn32tab), ("math/bits.deBruijn64tab", laid_math_bits_deBruijn64tab), ("internal/strconv.uint64pow10", laid_internal_strconv_uint64pow10), ("loop.example/g00082/impl.termShapes", laid_loop_example_g00082_impl_termShapes)] }
def FnRenewedSaid : Prop := fnRenewedRow.holds Tryd.pinned (OpenSpec.ofChange fnRenewedSpec)

/-- ITS FALSE NEIGHBOUR: 'it returns false'. Refute it at one input. -/
def fnRenewedWrong : ChangeSpec := { name := "fnRenewed", vars := ["loop.example/g00082/impl.termShapes"], fn := fun _ => fun
  | [d1, d2, g1] => { results := [.lit (.bool false)], args := [d1, d2], vars := [g1] }
  | _ => none }
def FnRenewedWrongFalsely : Prop := fnRenewedRow.holds Tryd.pinned (OpenSpec.ofChange fnRenewedWrong)

/-- 'laws.FnChained': WHATEVER THE INPUT: true; the input reads as it did. -/
def fnChainedSpec : ChangeSpec := { name := "fnChained", vars := ["loop.example/g00082/impl.termShapes"], fn := fun _ => fun
  | [d, g1] => { results := [.lit (.bool true)], args := [d], vars := [g1] }
  | _ => none }
def fnChainedRow : OpenClaim := { program := "ytedbhlihdfaaaaadoor", sum := "74aaa61b4be64b868b7d9d4c31980be88baf67448025bfe05b921517e836cab9", func := "loop.example/g00082/laws.FnChained", spec := "fnChained", inPlace := ["internal/abi.NoEscape", "internal/bytealg.MakeNoZero"], unfollowed := true, recurses := true, named := ["loop.example/g00082/impl.termShapes", "internal/strconv.uint64pow10", "math/bits.deBruijn32tab", "math/bits.deBruijn64tab"], plainKeys := false, apart := false, laid := [("math/bits.deBruijn32tab", laid_math_bits_deBruijn32tab), ("math/bits.deBruijn64tab", laid_math_bits_deBruijn64tab), ("internal/strconv.uint64pow10", laid_internal_strconv_uint64pow10), ("loop.example/g00082/impl.termShapes", laid_loop_example_g00082_impl_termShapes)] }
def FnChainedSaid : Prop := fnChainedRow.holds Tryd.pinned (OpenSpec.ofChange fnChainedSpec)

/-- ITS FALSE NEIGHBOUR: 'it returns false'. Refute it at one input. -/
def fnChainedWrong : ChangeSpec := { name := "fnChained", vars := ["loop.example/g00082/impl.termShapes"], fn := fun _ => fun
  | [d, g1] => { results := [.lit (.bool false)], args := [d], vars := [g1] }
  | _ => none }
def FnChainedWrongFalsely : Prop := fnChainedRow.holds Tryd.pinned (OpenSpec.ofChange fnChainedWrong)

/-- 'laws.FnComposites': WHATEVER THE INPUT: true; the input reads as it did. -/
def fnCompositesSpec : ChangeSpec := { name := "fnComposites", vars := ["loop.example/g00082/impl.termShapes"], fn := fun _ => fun
  | [d1, d2, g1] => { results := [.lit (.bool true)], args := [d1, d2], vars := [g1] }
  | _ => none }
def fnCompositesRow : OpenClaim := { program := "ytedbhlihdfaaaaadoor", sum := "74aaa61b4be64b868b7d9d4c31980be88baf67448025bfe05b921517e836cab9", func := "loop.example/g00082/laws.FnComposites", spec := "fnComposites", inPlace := ["internal/abi.NoEscape", "internal/bytealg.MakeNoZero"], unfollowed := true, recurses := true, named := ["loop.example/g00082/impl.termShapes", "internal/strconv.uint64pow10", "math/bits.deBruijn32tab", "math/bits.deBruijn64tab"], plainKeys := false, apart := false, laid := [("math/bits.deBruijn32tab", laid_math_bits_deBruijn32tab), ("math/bits.deBruijn64tab", laid_math_bits_deBruijn64tab), ("internal/strconv.uint64pow10", laid_internal_strconv_uint64pow10), ("loop.example/g00082/impl.termShapes", laid_loop_example_g00082_impl_termShapes)] }
def FnCompositesSaid : Prop := fnCompositesRow.holds Tryd.pinned (OpenSpec.ofChange fnCompositesSpec)

/-- ITS FALSE NEIGHBOUR: 'it returns false'. Refute it at one input. -/
def fnCompositesWrong : ChangeSpec := { name := "fnComposites", vars := ["loop.example/g00082/impl.termShapes"], fn := fun _ => fun
  | [d1, d2, g1] => { results := [.lit (.bool false)], args := [d1, d2], vars := [g1] }
  | _ => none }
def FnCompositesWrongFalsely : Prop := fnCompositesRow.holds Tryd.pinned (OpenSpec.ofChange fnCompositesWrong)

/-- 'laws.FnSealedWhole': WHATEVER THE INPUT: true; the input reads as it did. -/
def fnSealedWholeSpec : ChangeSpec := { name := "fnSealedWhole", vars := ["loop.example/g00082/impl.termShapes"], fn := fun _ => fun
  | [d, g1] => { results := [.lit (.bool true)], args := [d], vars := [g1] }
  | _ => none }
def fnSealedWholeRow : OpenClaim := { program := "ytedbhlihdfaaaaadoor", sum := "74aaa61b4be64b868b7d9d4c31980be88baf67448025bfe05b921517e836cab9", func := "loop.example/g00082/laws.FnSealedWhole", spec := "fnSealedWhole", unfollowed := true, recurses := true, named := ["loop.example/g00082/impl.termShapes"], plainKeys := false, apart := false, laid := [("loop.example/g00082/impl.termShapes", laid_loop_example_g00082_impl_termShapes)] }
def FnSealedWholeSaid : Prop := fnSealedWholeRow.holds Tryd.pinned (OpenSpec.ofChange fnSealedWholeSpec)

/-- ITS FALSE NEIGHBOUR: 'it returns false'. Refute it at one input. -/
def fnSealedWholeWrong : ChangeSpec := { name := "fnSealedWhole", vars := ["loop.example/g00082/impl.termShapes"], fn := fun _ => fun
  | [d, g1] => { results := [.lit (.bool false)], args := [d], vars := [g1] }
  | _ => none }
def FnSealedWholeWrongFalsely : Prop := fnSealedWholeRow.holds Tryd.pinned (OpenSpec.ofChange fnSealedWholeWrong)

/-- 'laws.FnExactMend': WHATEVER THE INPUT: true; the input reads as it did. -/
def fnExactMendSpec : ChangeSpec := { name := "fnExactMend", vars := ["loop.example/g00082/impl.termShapes"], fn := fun _ => fun
  | [d1, d2, g1] => { results := [.lit (.bool true)], args := [d1, d2], vars := [g1] }
  | _ => none }
def fnExactMendRow : OpenClaim := { program := "ytedbhlihdfaaaaadoor", sum := "74aaa61b4be64b868b7d9d4c31980be88baf67448025bfe05b921517e836cab9", func := "loop.example/g00082/laws.FnExactMend", spec := "fnExactMend", unfollowed := true, recurses := true, named := ["loop.example/g00082/impl.termShapes"], plainKeys := false, apart := false, laid := [("loop.example/g00082/impl.termShapes", laid_loop_example_g00082_impl_termShapes)] }
def FnExactMendSaid : Prop := fnExactMendRow.holds Tryd.pinned (OpenSpec.ofChange fnExactMendSpec)

/-- ITS FALSE NEIGHBOUR: 'it returns false'. Refute it at one input. -/
def fnExactMendWrong : ChangeSpec := { name := "fnExactMend", vars := ["loop.example/g00082/impl.termShapes"], fn := fun _ => fun
  | [d1, d2, g1] => { results := [.lit (.bool false)], args := [d1, d2], vars := [g1] }
  | _ => none }
def FnExactMendWrongFalsely : Prop := fnExactMendRow.holds Tryd.pinned (OpenSpec.ofChange fnExactMendWrong)

/- THE SECOND FORM. 'bulk': how many values and letters a reading holds, each counted each time it is reached (what is shared counts as often as it is met; a slice's spare places count too). A statement '..UptoSaid' is the law's where the arguments, and the package variables that the reading takes, are together of bulk at most 1048576: NARROWER than '..Said'. Prove '..Said' where nothing that the law and all that it calls make is longer than what came in: it says more and counts as full. Else prove '..UptoSaid'. A law counts once. -/
mutual
def uptoBulk {H : Type} : DataW H → Nat
  | .lit (.string bytes) => bytes.length + 1
  | .lit _ => 1
  | .nil => 1
  | .ptr d => uptoBulk d + 1
  | .slice elems spare => uptoBulkAll elems + uptoBulkAll spare + 1
  | .agg parts => uptoBulkAll parts + 1
  | .iface _ d => uptoBulk d + 1
  | .map entries => uptoBulkEntries entries + 1
  | .held _ => 1
def uptoBulkAll {H : Type} : List (DataW H) → Nat
  | [] => 0
  | d :: r => uptoBulk d + uptoBulkAll r
def uptoBulkEntries {H : Type} : List (Lit × DataW H) → Nat
  | [] => 0
  | x :: r => uptoBulkEntry x + uptoBulkEntries r
def uptoBulkEntry {H : Type} : Lit × DataW H → Nat
  | (.string bytes, d) => bytes.length + uptoBulk d + 1
  | (_, d) => uptoBulk d + 1
 end
def uptoSmall : (H : Type) → List (DataW H) → Bool := fun _ ds => decide (uptoBulkAll ds ≤ 1048576)
def OpenSpec.upto (s : _root_.Go.ChangeSpec) : _root_.Go.OpenSpec := { _root_.Go.OpenSpec.ofChange s with cond := some uptoSmall }

/-- 'laws.FnExactAskFor', WHERE WHAT IT READS IS OF BULK AT MOST 1048576: true; the input reads as it did. -/
def fnExactAskForUptoRow : OpenClaim := { program := "ytedbhlihdfaaaaadoor", sum := "74aaa61b4be64b868b7d9d4c31980be88baf67448025bfe05b921517e836cab9", func := "loop.example/g00082/laws.FnExactAskFor", spec := "fnExactAskFor", unfollowed := true, recurses := true, named := ["loop.example/g00082/impl.termShapes"], plainKeys := false, apart := false, laid := [("loop.example/g00082/impl.termShapes", laid_loop_example_g00082_impl_termShapes)], narrowed := true }
def FnExactAskForUptoSaid : Prop := fnExactAskForUptoRow.holds Tryd.pinned (OpenSpec.upto fnExactAskForSpec)

/-- 'laws.FnExactWriteLog', WHERE WHAT IT READS IS OF BULK AT MOST 1048576: true; the input reads as it did. -/
def fnExactWriteLogUptoRow : OpenClaim := { program := "ytedbhlihdfaaaaadoor", sum := "74aaa61b4be64b868b7d9d4c31980be88baf67448025bfe05b921517e836cab9", func := "loop.example/g00082/laws.FnExactWriteLog", spec := "fnExactWriteLog", unfollowed := true, recurses := true, named := ["loop.example/g00082/impl.termShapes"], plainKeys := false, apart := false, laid := [("loop.example/g00082/impl.termShapes", laid_loop_example_g00082_impl_termShapes)], narrowed := true }
def FnExactWriteLogUptoSaid : Prop := fnExactWriteLogUptoRow.holds Tryd.pinned (OpenSpec.upto fnExactWriteLogSpec)

/-- 'laws.FnExactPutSeal', WHERE WHAT IT READS IS OF BULK AT MOST 1048576: true; the input reads as it did. -/
def fnExactPutSealUptoRow : OpenClaim := { program := "ytedbhlihdfaaaaadoor", sum := "74aaa61b4be64b868b7d9d4c31980be88baf67448025bfe05b921517e836cab9", func := "loop.example/g00082/laws.FnExactPutSeal", spec := "fnExactPutSeal", unfollowed := true, recurses := true, named := ["loop.example/g00082/impl.termShapes"], plainKeys := false, apart := false, laid := [("loop.example/g00082/impl.termShapes", laid_loop_example_g00082_impl_termShapes)], narrowed := true }
def FnExactPutSealUptoSaid : Prop := fnExactPutSealUptoRow.holds Tryd.pinned (OpenSpec.upto fnExactPutSealSpec)

/-- 'laws.FnExactDemand', WHERE WHAT IT READS IS OF BULK AT MOST 1048576: true; the input reads as it did. -/
def fnExactDemandUptoRow : OpenClaim := { program := "ytedbhlihdfaaaaadoor", sum := "74aaa61b4be64b868b7d9d4c31980be88baf67448025bfe05b921517e836cab9", func := "loop.example/g00082/laws.FnExactDemand", spec := "fnExactDemand", unfollowed := true, recurses := true, named := ["internal/strconv.uint64pow10", "math/bits.deBruijn32tab", "math/bits.deBruijn64tab", "loop.example/g00082/impl.termShapes"], plainKeys := false, apart := false, laid := [("math/bits.deBruijn32tab", laid_math_bits_deBruijn32tab), ("math/bits.deBruijn64tab", laid_math_bits_deBruijn64tab), ("internal/strconv.uint64pow10", laid_internal_strconv_uint64pow10), ("loop.example/g00082/impl.termShapes", laid_loop_example_g00082_impl_termShapes)], narrowed := true }
def FnExactDemandUptoSaid : Prop := fnExactDemandUptoRow.holds Tryd.pinned (OpenSpec.upto fnExactDemandSpec)

/-- 'laws.FnExactPass', WHERE WHAT IT READS IS OF BULK AT MOST 1048576: true; the input reads as it did. -/
def fnExactPassUptoRow : OpenClaim := { program := "ytedbhlihdfaaaaadoor", sum := "74aaa61b4be64b868b7d9d4c31980be88baf67448025bfe05b921517e836cab9", func := "loop.example/g00082/laws.FnExactPass", spec := "fnExactPass", inPlace := ["internal/abi.NoEscape", "internal/bytealg.MakeNoZero"], unfollowed := true, recurses := true, named := ["loop.example/g00082/impl.termShapes", "internal/strconv.uint64pow10", "math/bits.deBruijn32tab", "math/bits.deBruijn64tab"], plainKeys := false, apart := false, laid := [("math/bits.deBruijn32tab", laid_math_bits_deBruijn32tab), ("math/bits.deBruijn64tab", laid_math_bits_deBruijn64tab), ("internal/strconv.uint64pow10", laid_internal_strconv_uint64pow10), ("loop.example/g00082/impl.termShapes", laid_loop_example_g00082_impl_termShapes)], narrowed := true }
def FnExactPassUptoSaid : Prop := fnExactPassUptoRow.holds Tryd.pinned (OpenSpec.upto fnExactPassSpec)

/-- 'laws.FnAsked', WHERE WHAT IT READS IS OF BULK AT MOST 1048576: true; the input reads as it did. -/
def fnAskedUptoRow : OpenClaim := { program := "ytedbhlihdfaaaaadoor", sum := "74aaa61b4be64b868b7d9d4c31980be88baf67448025bfe05b921517e836cab9", func := "loop.example/g00082/laws.FnAsked", spec := "fnAsked", unfollowed := true, recurses := true, named := ["loop.example/g00082/impl.termShapes"], plainKeys := false, apart := false, laid := [("loop.example/g00082/impl.termShapes", laid_loop_example_g00082_impl_termShapes)], narrowed := true }
def FnAskedUptoSaid : Prop := fnAskedUptoRow.holds Tryd.pinned (OpenSpec.upto fnAskedSpec)

/-- 'laws.FnLogBack', WHERE WHAT IT READS IS OF BULK AT MOST 1048576: true; the input reads as it did. -/
def fnLogBackUptoRow : OpenClaim := { program := "ytedbhlihdfaaaaadoor", sum := "74aaa61b4be64b868b7d9d4c31980be88baf67448025bfe05b921517e836cab9", func := "loop.example/g00082/laws.FnLogBack", spec := "fnLogBack", unfollowed := true, recurses := true, named := ["loop.example/g00082/impl.termShapes"], plainKeys := false, apart := false, laid := [("loop.example/g00082/impl.termShapes", laid_loop_example_g00082_impl_termShapes)], narrowed := true }
def FnLogBackUptoSaid : Prop := fnLogBackUptoRow.holds Tryd.pinned (OpenSpec.upto fnLogBackSpec)

/-- 'laws.FnRenewed', WHERE WHAT IT READS IS OF BULK AT MOST 1048576: true; the input reads as it did. -/
def fnRenewedUptoRow : OpenClaim := { program := "ytedbhlihdfaaaaadoor", sum := "74aaa61b4be64b868b7d9d4c31980be88baf67448025bfe05b921517e836cab9", func := "loop.example/g00082/laws.FnRenewed", spec := "fnRenewed", inPlace := ["internal/abi.NoEscape", "internal/bytealg.MakeNoZero"], unfollowed := true, recurses := true, named := ["internal/strconv.uint64pow10", "math/bits.deBruijn32tab", "math/bits.deBruijn64tab", "loop.example/g00082/impl.termShapes"], plainKeys := false, apart := false, laid := [("math/bits.deBruijn32tab", laid_math_bits_deBruijn32tab), ("math/bits.deBruijn64tab", laid_math_bits_deBruijn64tab), ("internal/strconv.uint64pow10", laid_internal_strconv_uint64pow10), ("loop.example/g00082/impl.termShapes", laid_loop_example_g00082_impl_termShapes)], narrowed := true }
def FnRenewedUptoSaid : Prop := fnRenewedUptoRow.holds Tryd.pinned (OpenSpec.upto fnRenewedSpec)

/-- 'laws.FnChained', WHERE WHAT IT READS IS OF BULK AT MOST 1048576: true; the input reads as it did. -/
def fnChainedUptoRow : OpenClaim := { program := "ytedbhlihdfaaaaadoor", sum := "74aaa61b4be64b868b7d9d4c31980be88baf67448025bfe05b921517e836cab9", func := "loop.example/g00082/laws.FnChained", spec := "fnChained", inPlace := ["internal/abi.NoEscape", "internal/bytealg.MakeNoZero"], unfollowed := true, recurses := true, named := ["loop.example/g00082/impl.termShapes", "internal/strconv.uint64pow10", "math/bits.deBruijn32tab", "math/bits.deBruijn64tab"], plainKeys := false, apart := false, laid := [("math/bits.deBruijn32tab", laid_math_bits_deBruijn32tab), ("math/bits.deBruijn64tab", laid_math_bits_deBruijn64tab), ("internal/strconv.uint64pow10", laid_internal_strconv_uint64pow10), ("loop.example/g00082/impl.termShapes", laid_loop_example_g00082_impl_termShapes)], narrowed := true }
def FnChainedUptoSaid : Prop := fnChainedUptoRow.holds Tryd.pinned (OpenSpec.upto fnChainedSpec)

/-- 'laws.FnComposites', WHERE WHAT IT READS IS OF BULK AT MOST 1048576: true; the input reads as it did. -/
def fnCompositesUptoRow : OpenClaim := { program := "ytedbhlihdfaaaaadoor", sum := "74aaa61b4be64b868b7d9d4c31980be88baf67448025bfe05b921517e836cab9", func := "loop.example/g00082/laws.FnComposites", spec := "fnComposites", inPlace := ["internal/abi.NoEscape", "internal/bytealg.MakeNoZero"], unfollowed := true, recurses := true, named := ["loop.example/g00082/impl.termShapes", "internal/strconv.uint64pow10", "math/bits.deBruijn32tab", "math/bits.deBruijn64tab"], plainKeys := false, apart := false, laid := [("math/bits.deBruijn32tab", laid_math_bits_deBruijn32tab), ("math/bits.deBruijn64tab", laid_math_bits_deBruijn64tab), ("internal/strconv.uint64pow10", laid_internal_strconv_uint64pow10), ("loop.example/g00082/impl.termShapes", laid_loop_example_g00082_impl_termShapes)], narrowed := true }
def FnCompositesUptoSaid : Prop := fnCompositesUptoRow.holds Tryd.pinned (OpenSpec.upto fnCompositesSpec)

/-- 'laws.FnSealedWhole', WHERE WHAT IT READS IS OF BULK AT MOST 1048576: true; the input reads as it did. -/
def fnSealedWholeUptoRow : OpenClaim := { program := "ytedbhlihdfaaaaadoor", sum := "74aaa61b4be64b868b7d9d4c31980be88baf67448025bfe05b921517e836cab9", func := "loop.example/g00082/laws.FnSealedWhole", spec := "fnSealedWhole", unfollowed := true, recurses := true, named := ["loop.example/g00082/impl.termShapes"], plainKeys := false, apart := false, laid := [("loop.example/g00082/impl.termShapes", laid_loop_example_g00082_impl_termShapes)], narrowed := true }
def FnSealedWholeUptoSaid : Prop := fnSealedWholeUptoRow.holds Tryd.pinned (OpenSpec.upto fnSealedWholeSpec)

/-- 'laws.FnExactMend', WHERE WHAT IT READS IS OF BULK AT MOST 1048576: true; the input reads as it did. -/
def fnExactMendUptoRow : OpenClaim := { program := "ytedbhlihdfaaaaadoor", sum := "74aaa61b4be64b868b7d9d4c31980be88baf67448025bfe05b921517e836cab9", func := "loop.example/g00082/laws.FnExactMend", spec := "fnExactMend", unfollowed := true, recurses := true, named := ["loop.example/g00082/impl.termShapes"], plainKeys := false, apart := false, laid := [("loop.example/g00082/impl.termShapes", laid_loop_example_g00082_impl_termShapes)], narrowed := true }
def FnExactMendUptoSaid : Prop := fnExactMendUptoRow.holds Tryd.pinned (OpenSpec.upto fnExactMendSpec)

end Rows
end Go.Proofs.YtedbhlihdfaaaaaDoor
