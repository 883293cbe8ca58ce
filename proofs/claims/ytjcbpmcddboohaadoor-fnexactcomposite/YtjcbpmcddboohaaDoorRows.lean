/-
  NARROWER THAN 'FOR EVERY INPUT', by the rows' own cells (each row's printed sentence says how): FnExactRootOk: laid · FnExactRootNew: laid · FnExactBootsOf: laid · FnExactQuoteBy: laid · FnExactComposite: laid · FnExactShown: laid · FnFolded: laid · FnComposites: laid · FnExactPowerOn: laid · FnBootsRise: laid · FnExactWriteLog: laid · FnLogBack: laid.
  DERIVED. THE GIVEN ROWS OF THIS SEAT. 12 by the template 'for every input the law returns true; each argument reads behind the call as it read before'; 0 by the template 'total and deterministic' (their statements: YtjcbpmcddboohaaDoorTotals.lean).
  GIVEN WITH THE SEED: the statements are not yours to turn. If you find one false, say at which input.
  Laid BY PROGRAM, IN A SANDBOX (cutbox-rows.mjs): the forced cells as the released guide's own fill.sh prints them over the translation 45713c1fa8b3abb1… (all of the seat's roots in one cut). By AI agents, Wed Nov 11 2026. No macro, syntax, notation, axiom, sorry.
-/
import Derived.Test.YtjcbpmcddboohaaDoorChecked
import GoSem.Claim
import GoSem.ClaimJoined
import GoSem.ClaimMapViews
import Derived.JoinedTies
import Derived.KernelRfl
namespace Go.Proofs.YtjcbpmcddboohaaDoor
/- THE CELL 'sum', in the pinned program and in every row, IS THE sha256 OF THE DUMP (.gsa) THAT YtjcbpmcddboohaaDoorProg.lean LOADS. Nothing in Lean hashes anything: it is a label: what it is worth is what the hold of that sum in a sandbox is worth. -/
noncomputable def Tryd.pinned : Pinned := { name := "ytjcbpmcddboohaadoor", sum := "45713c1fa8b3abb1490183a0156942f97a199027fef56d634a390567ca110f32", checked := Tryd.checked }
namespace Rows
def none {H : Type} : Left H := { results := [], args := [] }

/- WHAT THE LISTED PACKAGE-LEVEL VARIABLES READ AS WHEN THE CALL BEGINS. Each datum BY PROGRAM (the guide's laid-datum.mjs) off the statement by which the dump's own 'gosem.cut.vars' lays the variable. In a bare row this is a premise. The card (YtjcbpmcddboohaaDoorCards.lean) ties it to the program's text. -/
def laid_loop_example_g00082_impl_termShapes {H : Type} : DataW H := .agg [.agg [.lit (.string []), .lit (.int .i64 0), .lit (.int .i64 0), .lit (.bool false)], .agg [.lit (.string []), .lit (.int .i64 0), .lit (.int .i64 0), .lit (.bool false)], .agg [.lit (.string []), .lit (.int .i64 0), .lit (.int .i64 0), .lit (.bool false)], .agg [.lit (.string [112, 97, 105, 114]), .lit (.int .i64 2), .lit (.int .i64 2), .lit (.bool false)], .agg [.lit (.string [104, 97, 115, 104]), .lit (.int .i64 1), .lit (.int .i64 8), .lit (.bool false)], .agg [.lit (.string [115, 105, 103, 110]), .lit (.int .i64 2), .lit (.int .i64 2), .lit (.bool true)], .agg [.lit (.string [112, 117, 98]), .lit (.int .i64 1), .lit (.int .i64 1), .lit (.bool true)], .agg [.lit (.string [115, 101, 97, 108]), .lit (.int .i64 2), .lit (.int .i64 2), .lit (.bool false)]]
def laid_math_bits_deBruijn32tab {H : Type} : DataW H := .agg [.lit (.int .u8 0), .lit (.int .u8 1), .lit (.int .u8 28), .lit (.int .u8 2), .lit (.int .u8 29), .lit (.int .u8 14), .lit (.int .u8 24), .lit (.int .u8 3), .lit (.int .u8 30), .lit (.int .u8 22), .lit (.int .u8 20), .lit (.int .u8 15), .lit (.int .u8 25), .lit (.int .u8 17), .lit (.int .u8 4), .lit (.int .u8 8), .lit (.int .u8 31), .lit (.int .u8 27), .lit (.int .u8 13), .lit (.int .u8 23), .lit (.int .u8 21), .lit (.int .u8 19), .lit (.int .u8 16), .lit (.int .u8 7), .lit (.int .u8 26), .lit (.int .u8 12), .lit (.int .u8 18), .lit (.int .u8 6), .lit (.int .u8 11), .lit (.int .u8 5), .lit (.int .u8 10), .lit (.int .u8 9)]
def laid_math_bits_deBruijn64tab {H : Type} : DataW H := .agg [.lit (.int .u8 0), .lit (.int .u8 1), .lit (.int .u8 56), .lit (.int .u8 2), .lit (.int .u8 57), .lit (.int .u8 49), .lit (.int .u8 28), .lit (.int .u8 3), .lit (.int .u8 61), .lit (.int .u8 58), .lit (.int .u8 42), .lit (.int .u8 50), .lit (.int .u8 38), .lit (.int .u8 29), .lit (.int .u8 17), .lit (.int .u8 4), .lit (.int .u8 62), .lit (.int .u8 47), .lit (.int .u8 59), .lit (.int .u8 36), .lit (.int .u8 45), .lit (.int .u8 43), .lit (.int .u8 51), .lit (.int .u8 22), .lit (.int .u8 53), .lit (.int .u8 39), .lit (.int .u8 33), .lit (.int .u8 30), .lit (.int .u8 24), .lit (.int .u8 18), .lit (.int .u8 12), .lit (.int .u8 5), .lit (.int .u8 63), .lit (.int .u8 55), .lit (.int .u8 48), .lit (.int .u8 27), .lit (.int .u8 60), .lit (.int .u8 41), .lit (.int .u8 37), .lit (.int .u8 16), .lit (.int .u8 46), .lit (.int .u8 35), .lit (.int .u8 44), .lit (.int .u8 21), .lit (.int .u8 52), .lit (.int .u8 32), .lit (.int .u8 23), .lit (.int .u8 11), .lit (.int .u8 54), .lit (.int .u8 26), .lit (.int .u8 40), .lit (.int .u8 15), .lit (.int .u8 34), .lit (.int .u8 20), .lit (.int .u8 31), .lit (.int .u8 10), .lit (.int .u8 25), .lit (.int .u8 14), .lit (.int .u8 19), .lit (.int .u8 9), .lit (.int .u8 13), .lit (.int .u8 8), .lit (.int .u8 7), .lit (.int .u8 6)]
def laid_internal_strconv_uint64pow10 {H : Type} : DataW H := .agg [.lit (.int .u64 1), .lit (.int .u64 10), .lit (.int .u64 100), .lit (.int .u64 1000), .lit (.int .u64 10000), .lit (.int .u64 100000), .lit (.int .u64 1000000), .lit (.int .u64 10000000), .lit (.int .u64 100000000), .lit (.int .u64 1000000000), .lit (.int .u64 10000000000), .lit (.int .u64 100000000000), .lit (.int .u64 1000000000000), .lit (.int .u64 10000000000000), .lit (.int .u64 100000000000000), .lit (.int .u64 1000000000000000), .lit (.int .u64 10000000000000000), .lit (.int .u64 100000000000000000), .lit (.int .u64 1000000000000000000), .lit (.int .u64 10000000000000000000)]

/-- 'laws.FnExactRootOk': WHATEVER THE INPUT: true; the input reads as it did. -/
def fnExactRootOkSpec : ChangeSpec := { name := "fnExactRootOk", vars := ["loop.example/g00082/impl.termShapes"], fn := fun _ => fun
  | [d, g1] => { results := [.lit (.bool true)], args := [d], vars := [g1] }
  | _ => none }
def fnExactRootOkRow : OpenClaim := { program := "ytjcbpmcddboohaadoor", sum := "45713c1fa8b3abb1490183a0156942f97a199027fef56d634a390567ca110f32", func := "loop.example/g00082/laws.FnExactRootOk", spec := "fnExactRootOk", unfollowed := true, recurses := true, named := ["loop.example/g00082/impl.termShapes"], apart := false, laid := [("loop.example/g00082/impl.termShapes", laid_loop_example_g00082_impl_termShapes)] }
def FnExactRootOkSaid : Prop := fnExactRootOkRow.holds Tryd.pinned (OpenSpec.ofChange fnExactRootOkSpec)

/-- ITS FALSE NEIGHBOUR: 'it returns false'. Refute it at one input. -/
def fnExactRootOkWrong : ChangeSpec := { name := "fnExactRootOk", vars := ["loop.example/g00082/impl.termShapes"], fn := fun _ => fun
  | [d, g1] => { results := [.lit (.bool false)], args := [d], vars := [g1] }
  | _ => none }
def FnExactRootOkWrongFalsely : Prop := fnExactRootOkRow.holds Tryd.pinned (OpenSpec.ofChange fnExactRootOkWrong)

/-- 'laws.FnExactRootNew': WHATEVER THE INPUT: true; the input reads as it did. -/
def fnExactRootNewSpec : ChangeSpec := { name := "fnExactRootNew", vars := ["loop.example/g00082/impl.termShapes"], fn := fun _ => fun
  | [d, g1] => { results := [.lit (.bool true)], args := [d], vars := [g1] }
  | _ => none }
def fnExactRootNewRow : OpenClaim := { program := "ytjcbpmcddboohaadoor", sum := "45713c1fa8b3abb1490183a0156942f97a199027fef56d634a390567ca110f32", func := "loop.example/g00082/laws.FnExactRootNew", spec := "fnExactRootNew", unfollowed := true, recurses := true, named := ["loop.example/g00082/impl.termShapes"], apart := false, laid := [("loop.example/g00082/impl.termShapes", laid_loop_example_g00082_impl_termShapes)] }
def FnExactRootNewSaid : Prop := fnExactRootNewRow.holds Tryd.pinned (OpenSpec.ofChange fnExactRootNewSpec)

/-- ITS FALSE NEIGHBOUR: 'it returns false'. Refute it at one input. -/
def fnExactRootNewWrong : ChangeSpec := { name := "fnExactRootNew", vars := ["loop.example/g00082/impl.termShapes"], fn := fun _ => fun
  | [d, g1] => { results := [.lit (.bool false)], args := [d], vars := [g1] }
  | _ => none }
def FnExactRootNewWrongFalsely : Prop := fnExactRootNewRow.holds Tryd.pinned (OpenSpec.ofChange fnExactRootNewWrong)

/-- 'laws.FnExactBootsOf': WHATEVER THE INPUT: true; the input reads as it did. -/
def fnExactBootsOfSpec : ChangeSpec := { name := "fnExactBootsOf", vars := ["loop.example/g00082/impl.termShapes"], fn := fun _ => fun
  | [d, g1] => { results := [.lit (.bool true)], args := [d], vars := [g1] }
  | _ => none }
def fnExactBootsOfRow : OpenClaim := { program := "ytjcbpmcddboohaadoor", sum := "45713c1fa8b3abb1490183a0156942f97a199027fef56d634a390567ca110f32", func := "loop.example/g00082/laws.FnExactBootsOf", spec := "fnExactBootsOf", unfollowed := true, recurses := true, named := ["loop.example/g00082/impl.termShapes"], apart := false, laid := [("loop.example/g00082/impl.termShapes", laid_loop_example_g00082_impl_termShapes)] }
def FnExactBootsOfSaid : Prop := fnExactBootsOfRow.holds Tryd.pinned (OpenSpec.ofChange fnExactBootsOfSpec)

/-- ITS FALSE NEIGHBOUR: 'it returns false'. Refute it at one input. -/
def fnExactBootsOfWrong : ChangeSpec := { name := "fnExactBootsOf", vars := ["loop.example/g00082/impl.termShapes"], fn := fun _ => fun
  | [d, g1] => { results := [.lit (.bool false)], args := [d], vars := [g1] }
  | _ => none }
def FnExactBootsOfWrongFalsely : Prop := fnExactBootsOfRow.holds Tryd.pinned (OpenSpec.ofChange fnExactBootsOfWrong)

/-- 'laws.FnExactQuoteBy': WHATEVER THE INPUT: true; the input reads as it did. -/
def fnExactQuoteBySpec : ChangeSpec := { name := "fnExactQuoteBy", vars := ["loop.example/g00082/impl.termShapes"], fn := fun _ => fun
  | [d1, d2, d3, d4, g1] => { results := [.lit (.bool true)], args := [d1, d2, d3, d4], vars := [g1] }
  | _ => none }
def fnExactQuoteByRow : OpenClaim := { program := "ytjcbpmcddboohaadoor", sum := "45713c1fa8b3abb1490183a0156942f97a199027fef56d634a390567ca110f32", func := "loop.example/g00082/laws.FnExactQuoteBy", spec := "fnExactQuoteBy", inPlace := ["internal/abi.NoEscape", "internal/bytealg.MakeNoZero"], unfollowed := true, recurses := true, named := ["internal/strconv.uint64pow10", "math/bits.deBruijn32tab", "math/bits.deBruijn64tab", "loop.example/g00082/impl.termShapes"], apart := false, laid := [("math/bits.deBruijn32tab", laid_math_bits_deBruijn32tab), ("math/bits.deBruijn64tab", laid_math_bits_deBruijn64tab), ("internal/strconv.uint64pow10", laid_internal_strconv_uint64pow10), ("loop.example/g00082/impl.termShapes", laid_loop_example_g00082_impl_termShapes)] }
def FnExactQuoteBySaid : Prop := fnExactQuoteByRow.holds Tryd.pinned (OpenSpec.ofChange fnExactQuoteBySpec)

/-- ITS FALSE NEIGHBOUR: 'it returns false'. Refute it at one input. -/
def fnExactQuoteByWrong : ChangeSpec := { name := "fnExactQuoteBy", vars := ["loop.example/g00082/impl.termShapes"], fn := fun _ => fun
  | [d1, d2, d3, d4, g1] => { results := [.lit (.bool false)], args := [d1, d2, d3, d4], vars := [g1] }
  | _ => none }
def FnExactQuoteByWrongFalsely : Prop := fnExactQuoteByRow.holds Tryd.pinned (OpenSpec.ofChange fnExactQuoteByWrong)

/-- 'laws.FnExactComposite': WHATEVER THE INPUT: true; the input reads as it did. -/
def fnExactCompositeSpec : ChangeSpec := { name := "fnExactComposite", vars := ["loop.example/g00082/impl.termShapes"], fn := fun _ => fun
  | [d1, d2, g1] => { results := [.lit (.bool true)], args := [d1, d2], vars := [g1] }
  | _ => none }
def fnExactCompositeRow : OpenClaim := { program := "ytjcbpmcddboohaadoor", sum := "45713c1fa8b3abb1490183a0156942f97a199027fef56d634a390567ca110f32", func := "loop.example/g00082/laws.FnExactComposite", spec := "fnExactComposite", inPlace := ["internal/abi.NoEscape", "internal/bytealg.MakeNoZero"], unfollowed := true, recurses := true, named := ["loop.example/g00082/impl.termShapes", "internal/strconv.uint64pow10", "math/bits.deBruijn32tab", "math/bits.deBruijn64tab"], apart := false, laid := [("math/bits.deBruijn32tab", laid_math_bits_deBruijn32tab), ("math/bits.deBruijn64tab", laid_math_bits_deBruijn64tab), ("internal/strconv.uint64pow10", laid_internal_strconv_uint64pow10), ("loop.example/g00082/impl.termShapes", laid_loop_example_g00082_impl_termShapes)] }
def FnExactCompositeSaid : Prop := fnExactCompositeRow.holds Tryd.pinned (OpenSpec.ofChange fnExactCompositeSpec)

/-- ITS FALSE NEIGHBOUR: 'it returns false'. Refute it at one input. -/
def fnExactCompositeWrong : ChangeSpec := { name := "fnExactComposite", vars := ["loop.example/g00082/impl.termShapes"], fn := fun _ => fun
  | [d1, d2, g1] => { results := [.lit (.bool false)], args := [d1, d2], vars := [g1] }
  | _ => none }
def FnExactCompositeWrongFalsely : Prop := fnExactCompositeRow.holds Tryd.pinned (OpenSpec.ofChange fnExactCompositeWrong)

/-- 'laws.FnExactShown': WHATEVER THE INPUT: true; the input reads as it did. -/
def fnExactShownSpec : ChangeSpec := { name := "fnExactShown", vars := ["loop.example/g00082/impl.termShapes"], fn := fun _ => fun
  | [d1, d2, g1] => { results := [.lit (.bool true)], args := [d1, d2], vars := [g1] }
  | _ => none }
def fnExactShownRow : OpenClaim := { program := "ytjcbpmcddboohaadoor", sum := "45713c1fa8b3abb1490183a0156942f97a199027fef56d634a390567ca110f32", func := "loop.example/g00082/laws.FnExactShown", spec := "fnExactShown", unfollowed := true, recurses := true, named := ["loop.example/g00082/impl.termShapes"], apart := false, laid := [("loop.example/g00082/impl.termShapes", laid_loop_example_g00082_impl_termShapes)] }
def FnExactShownSaid : Prop := fnExactShownRow.holds Tryd.pinned (OpenSpec.ofChange fnExactShownSpec)

/-- ITS FALSE NEIGHBOUR: 'it returns false'. Refute it at one input. -/
def fnExactShownWrong : ChangeSpec := { name := "fnExactShown", vars := ["loop.example/g00082/impl.termShapes"], fn := fun _ => fun
  | [d1, d2, g1] => { results := [.lit (.bool false)], args := [d1, d2], vars := [g1] }
  | _ => none }
def FnExactShownWrongFalsely : Prop := fnExactShownRow.holds Tryd.pinned (OpenSpec.ofChange fnExactShownWrong)

/-- 'laws.FnFolded': WHATEVER THE INPUT: true; the input reads as it did. -/
def fnFoldedSpec : ChangeSpec := { name := "fnFolded", vars := ["loop.example/g00082/impl.termShapes"], fn := fun _ => fun
  | [d, g1] => { results := [.lit (.bool true)], args := [d], vars := [g1] }
  | _ => none }
def fnFoldedRow : OpenClaim := { program := "ytjcbpmcddboohaadoor", sum := "45713c1fa8b3abb1490183a0156942f97a199027fef56d634a390567ca110f32", func := "loop.example/g00082/laws.FnFolded", spec := "fnFolded", inPlace := ["internal/abi.NoEscape", "internal/bytealg.MakeNoZero"], unfollowed := true, recurses := true, named := ["loop.example/g00082/impl.termShapes"], apart := false, laid := [("loop.example/g00082/impl.termShapes", laid_loop_example_g00082_impl_termShapes)] }
def FnFoldedSaid : Prop := fnFoldedRow.holds Tryd.pinned (OpenSpec.ofChange fnFoldedSpec)

/-- ITS FALSE NEIGHBOUR: 'it returns false'. Refute it at one input. -/
def fnFoldedWrong : ChangeSpec := { name := "fnFolded", vars := ["loop.example/g00082/impl.termShapes"], fn := fun _ => fun
  | [d, g1] => { results := [.lit (.bool false)], args := [d], vars := [g1] }
  | _ => none }
def FnFoldedWrongFalsely : Prop := fnFoldedRow.holds Tryd.pinned (OpenSpec.ofChange fnFoldedWrong)

/-- 'laws.FnComposites': WHATEVER THE INPUT: true; the input reads as it did. -/
def fnCompositesSpec : ChangeSpec := { name := "fnComposites", vars := ["loop.example/g00082/impl.termShapes"], fn := fun _ => fun
  | [d1, d2, g1] => { results := [.lit (.bool true)], args := [d1, d2], vars := [g1] }
  | _ => none }
def fnCompositesRow : OpenClaim := { program := "ytjcbpmcddboohaadoor", sum := "45713c1fa8b3abb1490183a0156942f97a199027fef56d634a390567ca110f32", func := "loop.example/g00082/laws.FnComposites", spec := "fnComposites", inPlace := ["internal/abi.NoEscape", "internal/bytealg.MakeNoZero"], unfollowed := true, recurses := true, named := ["loop.example/g00082/impl.termShapes", "internal/strconv.uint64pow10", "math/bits.deBruijn32tab", "math/bits.deBruijn64tab"], apart := false, laid := [("math/bits.deBruijn32tab", laid_math_bits_deBruijn32tab), ("math/bits.deBruijn64tab", laid_math_bits_deBruijn64tab), ("internal/strconv.uint64pow10", laid_internal_strconv_uint64pow10), ("loop.example/g00082/impl.termShapes", laid_loop_example_g00082_impl_termShapes)] }
def FnCompositesSaid : Prop := fnCompositesRow.holds Tryd.pinned (OpenSpec.ofChange fnCompositesSpec)

/-- ITS FALSE NEIGHBOUR: 'it returns false'. Refute it at one input. -/
def fnCompositesWrong : ChangeSpec := { name := "fnComposites", vars := ["loop.example/g00082/impl.termShapes"], fn := fun _ => fun
  | [d1, d2, g1] => { results := [.lit (.bool false)], args := [d1, d2], vars := [g1] }
  | _ => none }
def FnCompositesWrongFalsely : Prop := fnCompositesRow.holds Tryd.pinned (OpenSpec.ofChange fnCompositesWrong)

/-- 'laws.FnExactPowerOn': WHATEVER THE INPUT: true; the input reads as it did. -/
def fnExactPowerOnSpec : ChangeSpec := { name := "fnExactPowerOn", vars := ["loop.example/g00082/impl.termShapes"], fn := fun _ => fun
  | [d1, d2, g1] => { results := [.lit (.bool true)], args := [d1, d2], vars := [g1] }
  | _ => none }
def fnExactPowerOnRow : OpenClaim := { program := "ytjcbpmcddboohaadoor", sum := "45713c1fa8b3abb1490183a0156942f97a199027fef56d634a390567ca110f32", func := "loop.example/g00082/laws.FnExactPowerOn", spec := "fnExactPowerOn", unfollowed := true, recurses := true, named := ["loop.example/g00082/impl.termShapes"], apart := false, laid := [("loop.example/g00082/impl.termShapes", laid_loop_example_g00082_impl_termShapes)] }
def FnExactPowerOnSaid : Prop := fnExactPowerOnRow.holds Tryd.pinned (OpenSpec.ofChange fnExactPowerOnSpec)

/-- ITS FALSE NEIGHBOUR: 'it returns false'. Refute it at one input. -/
def fnExactPowerOnWrong : ChangeSpec := { name := "fnExactPowerOn", vars := ["loop.example/g00082/impl.termShapes"], fn := fun _ => fun
  | [d1, d2, g1] => { results := [.lit (.bool false)], args := [d1, d2], vars := [g1] }
  | _ => none }
def FnExactPowerOnWrongFalsely : Prop := fnExactPowerOnRow.holds Tryd.pinned (OpenSpec.ofChange fnExactPowerOnWrong)

/-- 'laws.FnBootsRise': WHATEVER THE INPUT: true; the input reads as it did. -/
def fnBootsRiseSpec : ChangeSpec := { name := "fnBootsRise", vars := ["loop.example/g00082/impl.termShapes"], fn := fun _ => fun
  | [d, g1] => { results := [.lit (.bool true)], args := [d], vars := [g1] }
  | _ => none }
def fnBootsRiseRow : OpenClaim := { program := "ytjcbpmcddboohaadoor", sum := "45713c1fa8b3abb1490183a0156942f97a199027fef56d634a390567ca110f32", func := "loop.example/g00082/laws.FnBootsRise", spec := "fnBootsRise", unfollowed := true, recurses := true, named := ["loop.example/g00082/impl.termShapes"], apart := false, laid := [("loop.example/g00082/impl.termShapes", laid_loop_example_g00082_impl_termShapes)] }
def FnBootsRiseSaid : Prop := fnBootsRiseRow.holds Tryd.pinned (OpenSpec.ofChange fnBootsRiseSpec)

/-- ITS FALSE NEIGHBOUR: 'it returns false'. Refute it at one input. -/
def fnBootsRiseWrong : ChangeSpec := { name := "fnBootsRise", vars := ["loop.example/g00082/impl.termShapes"], fn := fun _ => fun
  | [d, g1] => { results := [.lit (.bool false)], args := [d], vars := [g1] }
  | _ => none }
def FnBootsRiseWrongFalsely : Prop := fnBootsRiseRow.holds Tryd.pinned (OpenSpec.ofChange fnBootsRiseWrong)

/-- 'laws.FnExactWriteLog': WHATEVER THE INPUT: true; the input reads as it did. -/
def fnExactWriteLogSpec : ChangeSpec := { name := "fnExactWriteLog", vars := ["loop.example/g00082/impl.termShapes"], fn := fun _ => fun
  | [d, g1] => { results := [.lit (.bool true)], args := [d], vars := [g1] }
  | _ => none }
def fnExactWriteLogRow : OpenClaim := { program := "ytjcbpmcddboohaadoor", sum := "45713c1fa8b3abb1490183a0156942f97a199027fef56d634a390567ca110f32", func := "loop.example/g00082/laws.FnExactWriteLog", spec := "fnExactWriteLog", unfollowed := true, recurses := true, named := ["loop.example/g00082/impl.termShapes"], apart := false, laid := [("loop.example/g00082/impl.termShapes", laid_loop_example_g00082_impl_termShapes)] }
def FnExactWriteLogSaid : Prop := fnExactWriteLogRow.holds Tryd.pinned (OpenSpec.ofChange fnExactWriteLogSpec)

/-- ITS FALSE NEIGHBOUR: 'it returns false'. Refute it at one input. -/
def fnExactWriteLogWrong : ChangeSpec := { name := "fnExactWriteLog", vars := ["loop.example/g00082/impl.termShapes"], fn := fun _ => fun
  | [d, g1] => { results := [.lit (.bool false)], args := [d], vars := [g1] }
  | _ => none }
def FnExactWriteLogWrongFalsely : Prop := fnExactWriteLogRow.holds Tryd.pinned (OpenSpec.ofChange fnExactWriteLogWrong)

/-- 'laws.FnLogBack': WHATEVER THE INPUT: true; the input reads as it did. -/
def fnLogBackSpec : ChangeSpec := { name := "fnLogBack", vars := ["loop.example/g00082/impl.termShapes"], fn := fun _ => fun
  | [d1, d2, g1] => { results := [.lit (.bool true)], args := [d1, d2], vars := [g1] }
  | _ => none }
def fnLogBackRow : OpenClaim := { program := "ytjcbpmcddboohaadoor", sum := "45713c1fa8b3abb1490183a0156942f97a199027fef56d634a390567ca110f32", func := "loop.example/g00082/laws.FnLogBack", spec := "fnLogBack", unfollowed := true, recurses := true, named := ["loop.example/g00082/impl.termShapes"], apart := false, laid := [("loop.example/g00082/impl.termShapes", laid_loop_example_g00082_impl_termShapes)] }
def FnLogBackSaid : Prop := fnLogBackRow.holds Tryd.pinned (OpenSpec.ofChange fnLogBackSpec)

/-- ITS FALSE NEIGHBOUR: 'it returns false'. Refute it at one input. -/
def fnLogBackWrong : ChangeSpec := { name := "fnLogBack", vars := ["loop.example/g00082/impl.termShapes"], fn := fun _ => fun
  | [d1, d2, g1] => { results := [.lit (.bool false)], args := [d1, d2], vars := [g1] }
  | _ => none }
def FnLogBackWrongFalsely : Prop := fnLogBackRow.holds Tryd.pinned (OpenSpec.ofChange fnLogBackWrong)

/- THE SECOND FORM. 'bulk': how many values and letters a reading holds, each counted each time it is reached (what is shared counts as often as it is met; a slice's spare places count too). A statement '..UptoSaid' is the law's where the arguments, and the package variables that the reading takes, are together of bulk at most 1048576: NARROWER than '..Said'. Prove '..Said' where nothing that the law and all that it calls make is longer than what came in: it says more and counts as full. Else prove '..UptoSaid'. A law counts once. -/
mutual
def uptoBulk {H : Type} : DataW H → Nat
  | .lit (.string bytes) => bytes.length + 1
  | .lit _ => 1
  | .nil => 1
  | .ptr d => uptoBulk d + 1
  | .slice elems spare => uptoBulkAll elems + uptoBulkAll spare + 1
  | .agg parts => uptoBulkAll parts + 1
  | .iface _ d => uptoBulk d + 1
  | .map entries => uptoBulkEntries entries + 1
  | .held _ => 1
def uptoBulkAll {H : Type} : List (DataW H) → Nat
  | [] => 0
  | d :: r => uptoBulk d + uptoBulkAll r
def uptoBulkEntries {H : Type} : List (Lit × DataW H) → Nat
  | [] => 0
  | x :: r => uptoBulkEntry x + uptoBulkEntries r
def uptoBulkEntry {H : Type} : Lit × DataW H → Nat
  | (.string bytes, d) => bytes.length + uptoBulk d + 1
  | (_, d) => uptoBulk d + 1
 end
def uptoSmall : (H : Type) → List (DataW H) → Bool := fun _ ds => decide (uptoBulkAll ds ≤ 1048576)
def OpenSpec.upto (s : _root_.Go.ChangeSpec) : _root_.Go.OpenSpec := { _root_.Go.OpenSpec.ofChange s with cond := some uptoSmall }

/-- 'laws.FnExactRootOk', WHERE WHAT IT READS IS OF BULK AT MOST 1048576: true; the input reads as it did. -/
def fnExactRootOkUptoRow : OpenClaim := { program := "ytjcbpmcddboohaadoor", sum := "45713c1fa8b3abb1490183a0156942f97a199027fef56d634a390567ca110f32", func := "loop.example/g00082/laws.FnExactRootOk", spec := "fnExactRootOk", unfollowed := true, recurses := true, named := ["loop.example/g00082/impl.termShapes"], apart := false, laid := [("loop.example/g00082/impl.termShapes", laid_loop_example_g00082_impl_termShapes)], narrowed := true }
def FnExactRootOkUptoSaid : Prop := fnExactRootOkUptoRow.holds Tryd.pinned (OpenSpec.upto fnExactRootOkSpec)

/-- 'laws.FnExactRootNew', WHERE WHAT IT READS IS OF BULK AT MOST 1048576: true; the input reads as it did. -/
def fnExactRootNewUptoRow : OpenClaim := { program := "ytjcbpmcddboohaadoor", sum := "45713c1fa8b3abb1490183a0156942f97a199027fef56d634a390567ca110f32", func := "loop.example/g00082/laws.FnExactRootNew", spec := "fnExactRootNew", unfollowed := true, recurses := true, named := ["loop.example/g00082/impl.termShapes"], apart := false, laid := [("loop.example/g00082/impl.termShapes", laid_loop_example_g00082_impl_termShapes)], narrowed := true }
def FnExactRootNewUptoSaid : Prop := fnExactRootNewUptoRow.holds Tryd.pinned (OpenSpec.upto fnExactRootNewSpec)

/-- 'laws.FnExactBootsOf', WHERE WHAT IT READS IS OF BULK AT MOST 1048576: true; the input reads as it did. -/
def fnExactBootsOfUptoRow : OpenClaim := { program := "ytjcbpmcddboohaadoor", sum := "45713c1fa8b3abb1490183a0156942f97a199027fef56d634a390567ca110f32", func := "loop.example/g00082/laws.FnExactBootsOf", spec := "fnExactBootsOf", unfollowed := true, recurses := true, named := ["loop.example/g00082/impl.termShapes"], apart := false, laid := [("loop.example/g00082/impl.termShapes", laid_loop_example_g00082_impl_termShapes)], narrowed := true }
def FnExactBootsOfUptoSaid : Prop := fnExactBootsOfUptoRow.holds Tryd.pinned (OpenSpec.upto fnExactBootsOfSpec)

/-- 'laws.FnExactQuoteBy', WHERE WHAT IT READS IS OF BULK AT MOST 1048576: true; the input reads as it did. -/
def fnExactQuoteByUptoRow : OpenClaim := { program := "ytjcbpmcddboohaadoor", sum := "45713c1fa8b3abb1490183a0156942f97a199027fef56d634a390567ca110f32", func := "loop.example/g00082/laws.FnExactQuoteBy", spec := "fnExactQuoteBy", inPlace := ["internal/abi.NoEscape", "internal/bytealg.MakeNoZero"], unfollowed := true, recurses := true, named := ["internal/strconv.uint64pow10", "math/bits.deBruijn32tab", "math/bits.deBruijn64tab", "loop.example/g00082/impl.termShapes"], apart := false, laid := [("math/bits.deBruijn32tab", laid_math_bits_deBruijn32tab), ("math/bits.deBruijn64tab", laid_math_bits_deBruijn64tab), ("internal/strconv.uint64pow10", laid_internal_strconv_uint64pow10), ("loop.example/g00082/impl.termShapes", laid_loop_example_g00082_impl_termShapes)], narrowed := true }
def FnExactQuoteByUptoSaid : Prop := fnExactQuoteByUptoRow.holds Tryd.pinned (OpenSpec.upto fnExactQuoteBySpec)

/-- 'laws.FnExactComposite', WHERE WHAT IT READS IS OF BULK AT MOST 1048576: true; the input reads as it did. -/
def fnExactCompositeUptoRow : OpenClaim := { program := "ytjcbpmcddboohaadoor", sum := "45713c1fa8b3abb1490183a0156942f97a199027fef56d634a390567ca110f32", func := "loop.example/g00082/laws.FnExactComposite", spec := "fnExactComposite", inPlace := ["internal/abi.NoEscape", "internal/bytealg.MakeNoZero"], unfollowed := true, recurses := true, named := ["loop.example/g00082/impl.termShapes", "internal/strconv.uint64pow10", "math/bits.deBruijn32tab", "math/bits.deBruijn64tab"], apart := false, laid := [("math/bits.deBruijn32tab", laid_math_bits_deBruijn32tab), ("math/bits.deBruijn64tab", laid_math_bits_deBruijn64tab), ("internal/strconv.uint64pow10", laid_internal_strconv_uint64pow10), ("loop.example/g00082/impl.termShapes", laid_loop_example_g00082_impl_termShapes)], narrowed := true }
def FnExactCompositeUptoSaid : Prop := fnExactCompositeUptoRow.holds Tryd.pinned (OpenSpec.upto fnExactCompositeSpec)

/-- 'laws.FnExactShown', WHERE WHAT IT READS IS OF BULK AT MOST 1048576: true; the input reads as it did. -/
def fnExactShownUptoRow : OpenClaim := { program := "ytjcbpmcddboohaadoor", sum := "45713c1fa8b3abb1490183a0156942f97a199027fef56d634a390567ca110f32", func := "loop.example/g00082/laws.FnExactShown", spec := "fnExactShown", unfollowed := true, recurses := true, named := ["loop.example/g00082/impl.termShapes"], apart := false, laid := [("loop.example/g00082/impl.termShapes", laid_loop_example_g00082_impl_termShapes)], narrowed := true }
def FnExactShownUptoSaid : Prop := fnExactShownUptoRow.holds Tryd.pinned (OpenSpec.upto fnExactShownSpec)

/-- 'laws.FnFolded', WHERE WHAT IT READS IS OF BULK AT MOST 1048576: true; the input reads as it did. -/
def fnFoldedUptoRow : OpenClaim := { program := "ytjcbpmcddboohaadoor", sum := "45713c1fa8b3abb1490183a0156942f97a199027fef56d634a390567ca110f32", func := "loop.example/g00082/laws.FnFolded", spec := "fnFolded", inPlace := ["internal/abi.NoEscape", "internal/bytealg.MakeNoZero"], unfollowed := true, recurses := true, named := ["loop.example/g00082/impl.termShapes"], apart := false, laid := [("loop.example/g00082/impl.termShapes", laid_loop_example_g00082_impl_termShapes)], narrowed := true }
def FnFoldedUptoSaid : Prop := fnFoldedUptoRow.holds Tryd.pinned (OpenSpec.upto fnFoldedSpec)

/-- 'laws.FnComposites', WHERE WHAT IT READS IS OF BULK AT MOST 1048576: true; the input reads as it did. -/
def fnCompositesUptoRow : OpenClaim := { program := "ytjcbpmcddboohaadoor", sum := "45713c1fa8b3abb1490183a0156942f97a199027fef56d634a390567ca110f32", func := "loop.example/g00082/laws.FnComposites", spec := "fnComposites", inPlace := ["internal/abi.NoEscape", "internal/bytealg.MakeNoZero"], unfollowed := true, recurses := true, named := ["loop.example/g00082/impl.termShapes", "internal/strconv.uint64pow10", "math/bits.deBruijn32tab", "math/bits.deBruijn64tab"], apart := false, laid := [("math/bits.deBruijn32tab", laid_math_bits_deBruijn32tab), ("math/bits.deBruijn64tab", laid_math_bits_deBruijn64tab), ("internal/strconv.uint64pow10", laid_internal_strconv_uint64pow10), ("loop.example/g00082/impl.termShapes", laid_loop_example_g00082_impl_termShapes)], narrowed := true }
def FnCompositesUptoSaid : Prop := fnCompositesUptoRow.holds Tryd.pinned (OpenSpec.upto fnCompositesSpec)

/-- 'laws.FnExactPowerOn', WHERE WHAT IT READS IS OF BULK AT MOST 1048576: true; the input reads as it did. -/
def fnExactPowerOnUptoRow : OpenClaim := { program := "ytjcbpmcddboohaadoor", sum := "45713c1fa8b3abb1490183a0156942f97a199027fef56d634a390567ca110f32", func := "loop.example/g00082/laws.FnExactPowerOn", spec := "fnExactPowerOn", unfollowed := true, recurses := true, named := ["loop.example/g00082/impl.termShapes"], apart := false, laid := [("loop.example/g00082/impl.termShapes", laid_loop_example_g00082_impl_termShapes)], narrowed := true }
def FnExactPowerOnUptoSaid : Prop := fnExactPowerOnUptoRow.holds Tryd.pinned (OpenSpec.upto fnExactPowerOnSpec)

/-- 'laws.FnBootsRise', WHERE WHAT IT READS IS OF BULK AT MOST 1048576: true; the input reads as it did. -/
def fnBootsRiseUptoRow : OpenClaim := { program := "ytjcbpmcddboohaadoor", sum := "45713c1fa8b3abb1490183a0156942f97a199027fef56d634a390567ca110f32", func := "loop.example/g00082/laws.FnBootsRise", spec := "fnBootsRise", unfollowed := true, recurses := true, named := ["loop.example/g00082/impl.termShapes"], apart := false, laid := [("loop.example/g00082/impl.termShapes", laid_loop_example_g00082_impl_termShapes)], narrowed := true }
def FnBootsRiseUptoSaid : Prop := fnBootsRiseUptoRow.holds Tryd.pinned (OpenSpec.upto fnBootsRiseSpec)

/-- 'laws.FnExactWriteLog', WHERE WHAT IT READS IS OF BULK AT MOST 1048576: true; the input reads as it did. -/
def fnExactWriteLogUptoRow : OpenClaim := { program := "ytjcbpmcddboohaadoor", sum := "45713c1fa8b3abb1490183a0156942f97a199027fef56d634a390567ca110f32", func := "loop.example/g00082/laws.FnExactWriteLog", spec := "fnExactWriteLog", unfollowed := true, recurses := true, named := ["loop.example/g00082/impl.termShapes"], apart := false, laid := [("loop.example/g00082/impl.termShapes", laid_loop_example_g00082_impl_termShapes)], narrowed := true }
def FnExactWriteLogUptoSaid : Prop := fnExactWriteLogUptoRow.holds Tryd.pinned (OpenSpec.upto fnExactWriteLogSpec)

/-- 'laws.FnLogBack', WHERE WHAT IT READS IS OF BULK AT MOST 1048576: true; the input reads as it did. -/
def fnLogBackUptoRow : OpenClaim := { program := "ytjcbpmcddboohaadoor", sum := "45713c1fa8b3abb1490183a0156942f97a199027fef56d634a390567ca110f32", func := "loop.example/g00082/laws.FnLogBack", spec := "fnLogBack", unfollowed := true, recurses := true, named := ["loop.example/g00082/impl.termShapes"], apart := false, laid := [("loop.example/g00082/impl.termShapes", laid_loop_example_g00082_impl_termShapes)], narrowed := true }
def FnLogBackUptoSaid : Prop := fnLogBackUptoRow.holds Tryd.pinned (OpenSpec.upto fnLogBackSpec)

end Rows
end Go.Proofs.YtjcbpmcddboohaaDoor
