/-
  NARROWER THAN 'FOR EVERY INPUT', by the rows' own cells (each row's printed sentence says how): FnMade: laid · FnNumbers: laid · FnApart: laid · FnRecipes: laid · FnNoSecret: laid · FnExactPartsOf: laid · FnExactMake: laid · FnExactStands: laid · FnExactSecretsOf: laid · FnExactTakeApart: laid · FnExactCanMake: laid · FnExactRunRecipe: laid.
  DERIVED. THE GIVEN ROWS OF THIS SEAT. 12 by the template 'for every input the law returns true; each argument reads behind the call as it read before'; 0 by the template 'total and deterministic' (their statements: YtmjfleejjhahiaaDoorTotals.lean).
  GIVEN WITH THE SEED: the statements are not yours to turn. If you find one false, say at which input.
  Laid BY PROGRAM, IN A SANDBOX (cutbox-rows.mjs): the forced cells as the released guide's own fill.sh prints them over the translation 5c2a52a9901c25d2… (all of the seat's roots in one cut). By AI agents, Wed Nov 11 2026. No macro, syntax, notation, axiom, sorry.
-/
import Derived.Test.YtmjfleejjhahiaaDoorChecked
import GoSem.Claim
import GoSem.ClaimJoined
import GoSem.ClaimMapViews
import Derived.JoinedTies
import Derived.KernelRfl
namespace Go.Proofs.YtmjfleejjhahiaaDoor
/- THE CELL 'sum', in the pinned program and in every row, IS THE sha256 OF THE DUMP (.gsa) THAT YtmjfleejjhahiaaDoorProg.lean LOADS. Nothing in Lean hashes anything: it is a label: what it is worth is what the hold of that sum in a sandbox is worth. -/
noncomputable def Tryd.pinned : Pinned := { name := "ytmjfleejjhahiaadoor", sum := "5c2a52a9901c25d25e429c130e92708bfeaa040bb4788ea2aabcd8d890e13372", checked := Tryd.checked }
namespace Rows
def none {H : Type} : Left H := { results := [], args := [] }

/- WHAT THE LISTED PACKAGE-LEVEL VARIABLES READ AS WHEN THE CALL BEGINS. Each datum BY PROGRAM (the guide's laid-datum.mjs) off the statement by which the dump's own 'gosem.cut.vars' lays the variable. In a bare row this is a premise. The card (YtmjfleejjhahiaaDoorCards.lean) ties it to the program's text. -/
def laid_loop_example_g00082_impl_termShapes {H : Type} : DataW H := .agg [.agg [.lit (.string []), .lit (.int .i64 0), .lit (.int .i64 0), .lit (.bool false)], .agg [.lit (.string []), .lit (.int .i64 0), .lit (.int .i64 0), .lit (.bool false)], .agg [.lit (.string []), .lit (.int .i64 0), .lit (.int .i64 0), .lit (.bool false)], .agg [.lit (.string [112, 97, 105, 114]), .lit (.int .i64 2), .lit (.int .i64 2), .lit (.bool false)], .agg [.lit (.string [104, 97, 115, 104]), .lit (.int .i64 1), .lit (.int .i64 8), .lit (.bool false)], .agg [.lit (.string [115, 105, 103, 110]), .lit (.int .i64 2), .lit (.int .i64 2), .lit (.bool true)], .agg [.lit (.string [112, 117, 98]), .lit (.int .i64 1), .lit (.int .i64 1), .lit (.bool true)], .agg [.lit (.string [115, 101, 97, 108]), .lit (.int .i64 2), .lit (.int .i64 2), .lit (.bool false)]]
def laid_math_bits_deBruijn32tab {H : Type} : DataW H := .agg [.lit (.int .u8 0), .lit (.int .u8 1), .lit (.int .u8 28), .lit (.int .u8 2), .lit (.int .u8 29), .lit (.int .u8 14), .lit (.int .u8 24), .lit (.int .u8 3), .lit (.int .u8 30), .lit (.int .u8 22), .lit (.int .u8 20), .lit (.int .u8 15), .lit (.int .u8 25), .lit (.int .u8 17), .lit (.int .u8 4), .lit (.int .u8 8), .lit (.int .u8 31), .lit (.int .u8 27), .lit (.int .u8 13), .lit (.int .u8 23), .lit (.int .u8 21), .lit (.int .u8 19), .lit (.int .u8 16), .lit (.int .u8 7), .lit (.int .u8 26), .lit (.int .u8 12), .lit (.int .u8 18), .lit (.int .u8 6), .lit (.int .u8 11), .lit (.int .u8 5), .lit (.int .u8 10), .lit (.int .u8 9)]
def laid_math_bits_deBruijn64tab {H : Type} : DataW H := .agg [.lit (.int .u8 0), .lit (.int .u8 1), .lit (.int .u8 56), .lit (.int .u8 2), .lit (.int .u8 57), .lit (.int .u8 49), .lit (.int .u8 28), .lit (.int .u8 3), .lit (.int .u8 61), .lit (.int .u8 58), .lit (.int .u8 42), .lit (.int .u8 50), .lit (.int .u8 38), .lit (.int .u8 29), .lit (.int .u8 17), .lit (.int .u8 4), .lit (.int .u8 62), .lit (.int .u8 47), .lit (.int .u8 59), .lit (.int .u8 36), .lit (.int .u8 45), .lit (.int .u8 43), .lit (.int .u8 51), .lit (.int .u8 22), .lit (.int .u8 53), .lit (.int .u8 39), .lit (.int .u8 33), .lit (.int .u8 30), .lit (.int .u8 24), .lit (.int .u8 18), .lit (.int .u8 12), .lit (.int .u8 5), .lit (.int .u8 63), .lit (.int .u8 55), .lit (.int .u8 48), .lit (.int .u8 27), .lit (.int .u8 60), .lit (.int .u8 41), .lit (.int .u8 37), .lit (.int .u8 16), .lit (.int .u8 46), .lit (.int .u8 35), .lit (.int .u8 44), .lit (.int .u8 21), .lit (.int .u8 52), .lit (.int .u8 32), .lit (.int .u8 23), .lit (.int .u8 11), .lit (.int .u8 54), .lit (.int .u8 26), .lit (.int .u8 40), .lit (.int .u8 15), .lit (.int .u8 34), .lit (.int .u8 20), .lit (.int .u8 31), .lit (.int .u8 10), .lit (.int .u8 25), .lit (.int .u8 14), .lit (.int .u8 19), .lit (.int .u8 9), .lit (.int .u8 13), .lit (.int .u8 8), .lit (.int .u8 7), .lit (.int .u8 6)]
def laid_internal_strconv_uint64pow10 {H : Type} : DataW H := .agg [.lit (.int .u64 1), .lit (.int .u64 10), .lit (.int .u64 100), .lit (.int .u64 1000), .lit (.int .u64 10000), .lit (.int .u64 100000), .lit (.int .u64 1000000), .lit (.int .u64 10000000), .lit (.int .u64 100000000), .lit (.int .u64 1000000000), .lit (.int .u64 10000000000), .lit (.int .u64 100000000000), .lit (.int .u64 1000000000000), .lit (.int .u64 10000000000000), .lit (.int .u64 100000000000000), .lit (.int .u64 1000000000000000), .lit (.int .u64 10000000000000000), .lit (.int .u64 100000000000000000), .lit (.int .u64 1000000000000000000), .lit (.int .u64 10000000000000000000)]
def laid_strconv_ErrRange {H : Type} : DataW H := .iface "*errors.errorString" (.ptr (.agg [.lit (.string [118, 97, 108, 117, 101, 32, 111, 117, 116, 32, 111, 102, 32, 114, 97, 110, 103, 101])]))
def laid_strconv_ErrSyntax {H : Type} : DataW H := .iface "*errors.errorString" (.ptr (.agg [.lit (.string [105, 110, 118, 97, 108, 105, 100, 32, 115, 121, 110, 116, 97, 120])]))

/-- 'laws.FnMade': WHATEVER THE INPUT: true; the input reads as it did. -/
def fnMadeSpec : ChangeSpec := { name := "fnMade", vars := ["loop.example/g00082/impl.termShapes"], fn := fun _ => fun
  | [d, g1] => { results := [.lit (.bool true)], args := [d], vars := [g1] }
  | _ => none }
def fnMadeRow : OpenClaim := { program := "ytmjfleejjhahiaadoor", sum := "5c2a52a9901c25d25e429c130e92708bfeaa040bb4788ea2aabcd8d890e13372", func := "loop.example/g00082/laws.FnMade", spec := "fnMade", inPlace := ["internal/abi.NoEscape", "internal/bytealg.MakeNoZero"], unfollowed := true, recurses := true, named := ["loop.example/g00082/impl.termShapes"], apart := false, laid := [("loop.example/g00082/impl.termShapes", laid_loop_example_g00082_impl_termShapes)] }
def FnMadeSaid : Prop := fnMadeRow.holds Tryd.pinned (OpenSpec.ofChange fnMadeSpec)

/-- ITS FALSE NEIGHBOUR: 'it returns false'. Refute it at one input. -/
def fnMadeWrong : ChangeSpec := { name := "fnMade", vars := ["loop.example/g00082/impl.termShapes"], fn := fun _ => fun
  | [d, g1] => { results := [.lit (.bool false)], args := [d], vars := [g1] }
  | _ => none }
def FnMadeWrongFalsely : Prop := fnMadeRow.holds Tryd.pinned (OpenSpec.ofChange fnMadeWrong)

/-- 'laws.FnNumbers': WHATEVER THE INPUT: true; the input reads as it did. -/
def fnNumbersSpec : ChangeSpec := { name := "fnNumbers", vars := ["loop.example/g00082/impl.termShapes"], fn := fun _ => fun
  | [d1, d2, g1] => { results := [.lit (.bool true)], args := [d1, d2], vars := [g1] }
  | _ => none }
def fnNumbersRow : OpenClaim := { program := "ytmjfleejjhahiaadoor", sum := "5c2a52a9901c25d25e429c130e92708bfeaa040bb4788ea2aabcd8d890e13372", func := "loop.example/g00082/laws.FnNumbers", spec := "fnNumbers", unfollowed := true, recurses := true, named := ["internal/strconv.uint64pow10", "math/bits.deBruijn32tab", "math/bits.deBruijn64tab", "strconv.ErrSyntax", "strconv.ErrRange", "loop.example/g00082/impl.termShapes"], apart := false, laid := [("math/bits.deBruijn32tab", laid_math_bits_deBruijn32tab), ("math/bits.deBruijn64tab", laid_math_bits_deBruijn64tab), ("internal/strconv.uint64pow10", laid_internal_strconv_uint64pow10), ("strconv.ErrRange", laid_strconv_ErrRange), ("strconv.ErrSyntax", laid_strconv_ErrSyntax), ("loop.example/g00082/impl.termShapes", laid_loop_example_g00082_impl_termShapes)] }
def FnNumbersSaid : Prop := fnNumbersRow.holds Tryd.pinned (OpenSpec.ofChange fnNumbersSpec)

/-- ITS FALSE NEIGHBOUR: 'it returns false'. Refute it at one input. -/
def fnNumbersWrong : ChangeSpec := { name := "fnNumbers", vars := ["loop.example/g00082/impl.termShapes"], fn := fun _ => fun
  | [d1, d2, g1] => { results := [.lit (.bool false)], args := [d1, d2], vars := [g1] }
  | _ => none }
def FnNumbersWrongFalsely : Prop := fnNumbersRow.holds Tryd.pinned (OpenSpec.ofChange fnNumbersWrong)

/-- 'laws.FnApart': WHATEVER THE INPUT: true; the input reads as it did. -/
def fnApartSpec : ChangeSpec := { name := "fnApart", vars := ["loop.example/g00082/impl.termShapes"], fn := fun _ => fun
  | [d, g1] => { results := [.lit (.bool true)], args := [d], vars := [g1] }
  | _ => none }
def fnApartRow : OpenClaim := { program := "ytmjfleejjhahiaadoor", sum := "5c2a52a9901c25d25e429c130e92708bfeaa040bb4788ea2aabcd8d890e13372", func := "loop.example/g00082/laws.FnApart", spec := "fnApart", unfollowed := true, recurses := true, named := ["loop.example/g00082/impl.termShapes"], apart := false, laid := [("loop.example/g00082/impl.termShapes", laid_loop_example_g00082_impl_termShapes)] }
def FnApartSaid : Prop := fnApartRow.holds Tryd.pinned (OpenSpec.ofChange fnApartSpec)

/-- ITS FALSE NEIGHBOUR: 'it returns false'. Refute it at one input. -/
def fnApartWrong : ChangeSpec := { name := "fnApart", vars := ["loop.example/g00082/impl.termShapes"], fn := fun _ => fun
  | [d, g1] => { results := [.lit (.bool false)], args := [d], vars := [g1] }
  | _ => none }
def FnApartWrongFalsely : Prop := fnApartRow.holds Tryd.pinned (OpenSpec.ofChange fnApartWrong)

/-- 'laws.FnRecipes': WHATEVER THE INPUT: true; the input reads as it did. -/
def fnRecipesSpec : ChangeSpec := { name := "fnRecipes", vars := ["loop.example/g00082/impl.termShapes"], fn := fun _ => fun
  | [d, g1] => { results := [.lit (.bool true)], args := [d], vars := [g1] }
  | _ => none }
def fnRecipesRow : OpenClaim := { program := "ytmjfleejjhahiaadoor", sum := "5c2a52a9901c25d25e429c130e92708bfeaa040bb4788ea2aabcd8d890e13372", func := "loop.example/g00082/laws.FnRecipes", spec := "fnRecipes", inPlace := ["internal/abi.NoEscape", "internal/bytealg.MakeNoZero"], unfollowed := true, recurses := true, named := ["loop.example/g00082/impl.termShapes"], apart := false, laid := [("loop.example/g00082/impl.termShapes", laid_loop_example_g00082_impl_termShapes)] }
def FnRecipesSaid : Prop := fnRecipesRow.holds Tryd.pinned (OpenSpec.ofChange fnRecipesSpec)

/-- ITS FALSE NEIGHBOUR: 'it returns false'. Refute it at one input. -/
def fnRecipesWrong : ChangeSpec := { name := "fnRecipes", vars := ["loop.example/g00082/impl.termShapes"], fn := fun _ => fun
  | [d, g1] => { results := [.lit (.bool false)], args := [d], vars := [g1] }
  | _ => none }
def FnRecipesWrongFalsely : Prop := fnRecipesRow.holds Tryd.pinned (OpenSpec.ofChange fnRecipesWrong)

/-- 'laws.FnNoSecret': WHATEVER THE INPUT: true; the input reads as it did. -/
def fnNoSecretSpec : ChangeSpec := { name := "fnNoSecret", vars := ["loop.example/g00082/impl.termShapes"], fn := fun _ => fun
  | [d, g1] => { results := [.lit (.bool true)], args := [d], vars := [g1] }
  | _ => none }
def fnNoSecretRow : OpenClaim := { program := "ytmjfleejjhahiaadoor", sum := "5c2a52a9901c25d25e429c130e92708bfeaa040bb4788ea2aabcd8d890e13372", func := "loop.example/g00082/laws.FnNoSecret", spec := "fnNoSecret", unfollowed := true, recurses := true, named := ["loop.example/g00082/impl.termShapes"], apart := false, laid := [("loop.example/g00082/impl.termShapes", laid_loop_example_g00082_impl_termShapes)] }
def FnNoSecretSaid : Prop := fnNoSecretRow.holds Tryd.pinned (OpenSpec.ofChange fnNoSecretSpec)

/-- ITS FALSE NEIGHBOUR: 'it returns false'. Refute it at one input. -/
def fnNoSecretWrong : ChangeSpec := { name := "fnNoSecret", vars := ["loop.example/g00082/impl.termShapes"], fn := fun _ => fun
  | [d, g1] => { results := [.lit (.bool false)], args := [d], vars := [g1] }
  | _ => none }
def FnNoSecretWrongFalsely : Prop := fnNoSecretRow.holds Tryd.pinned (OpenSpec.ofChange fnNoSecretWrong)

/-- 'laws.FnExactPartsOf': WHATEVER THE INPUT: true; the input reads as it did. -/
def fnExactPartsOfSpec : ChangeSpec := { name := "fnExactPartsOf", vars := ["loop.example/g00082/impl.termShapes"], fn := fun _ => fun
  | [d, g1] => { results := [.lit (.bool true)], args := [d], vars := [g1] }
  | _ => none }
def fnExactPartsOfRow : OpenClaim := { program := "ytmjfleejjhahiaadoor", sum := "5c2a52a9901c25d25e429c130e92708bfeaa040bb4788ea2aabcd8d890e13372", func := "loop.example/g00082/laws.FnExactPartsOf", spec := "fnExactPartsOf", unfollowed := true, recurses := true, named := ["loop.example/g00082/impl.termShapes"], apart := false, laid := [("loop.example/g00082/impl.termShapes", laid_loop_example_g00082_impl_termShapes)] }
def FnExactPartsOfSaid : Prop := fnExactPartsOfRow.holds Tryd.pinned (OpenSpec.ofChange fnExactPartsOfSpec)

/-- ITS FALSE NEIGHBOUR: 'it returns false'. Refute it at one input. -/
def fnExactPartsOfWrong : ChangeSpec := { name := "fnExactPartsOf", vars := ["loop.example/g00082/impl.termShapes"], fn := fun _ => fun
  | [d, g1] => { results := [.lit (.bool false)], args := [d], vars := [g1] }
  | _ => none }
def FnExactPartsOfWrongFalsely : Prop := fnExactPartsOfRow.holds Tryd.pinned (OpenSpec.ofChange fnExactPartsOfWrong)

/-- 'laws.FnExactMake': WHATEVER THE INPUT: true; the input reads as it did. -/
def fnExactMakeSpec : ChangeSpec := { name := "fnExactMake", vars := ["loop.example/g00082/impl.termShapes"], fn := fun _ => fun
  | [d1, d2, g1] => { results := [.lit (.bool true)], args := [d1, d2], vars := [g1] }
  | _ => none }
def fnExactMakeRow : OpenClaim := { program := "ytmjfleejjhahiaadoor", sum := "5c2a52a9901c25d25e429c130e92708bfeaa040bb4788ea2aabcd8d890e13372", func := "loop.example/g00082/laws.FnExactMake", spec := "fnExactMake", inPlace := ["internal/abi.NoEscape", "internal/bytealg.MakeNoZero"], unfollowed := true, recurses := true, named := ["loop.example/g00082/impl.termShapes"], apart := false, laid := [("loop.example/g00082/impl.termShapes", laid_loop_example_g00082_impl_termShapes)] }
def FnExactMakeSaid : Prop := fnExactMakeRow.holds Tryd.pinned (OpenSpec.ofChange fnExactMakeSpec)

/-- ITS FALSE NEIGHBOUR: 'it returns false'. Refute it at one input. -/
def fnExactMakeWrong : ChangeSpec := { name := "fnExactMake", vars := ["loop.example/g00082/impl.termShapes"], fn := fun _ => fun
  | [d1, d2, g1] => { results := [.lit (.bool false)], args := [d1, d2], vars := [g1] }
  | _ => none }
def FnExactMakeWrongFalsely : Prop := fnExactMakeRow.holds Tryd.pinned (OpenSpec.ofChange fnExactMakeWrong)

/-- 'laws.FnExactStands': WHATEVER THE INPUT: true; the input reads as it did. -/
def fnExactStandsSpec : ChangeSpec := { name := "fnExactStands", vars := ["loop.example/g00082/impl.termShapes"], fn := fun _ => fun
  | [d1, d2, g1] => { results := [.lit (.bool true)], args := [d1, d2], vars := [g1] }
  | _ => none }
def fnExactStandsRow : OpenClaim := { program := "ytmjfleejjhahiaadoor", sum := "5c2a52a9901c25d25e429c130e92708bfeaa040bb4788ea2aabcd8d890e13372", func := "loop.example/g00082/laws.FnExactStands", spec := "fnExactStands", unfollowed := true, recurses := true, named := ["loop.example/g00082/impl.termShapes"], apart := false, laid := [("loop.example/g00082/impl.termShapes", laid_loop_example_g00082_impl_termShapes)] }
def FnExactStandsSaid : Prop := fnExactStandsRow.holds Tryd.pinned (OpenSpec.ofChange fnExactStandsSpec)

/-- ITS FALSE NEIGHBOUR: 'it returns false'. Refute it at one input. -/
def fnExactStandsWrong : ChangeSpec := { name := "fnExactStands", vars := ["loop.example/g00082/impl.termShapes"], fn := fun _ => fun
  | [d1, d2, g1] => { results := [.lit (.bool false)], args := [d1, d2], vars := [g1] }
  | _ => none }
def FnExactStandsWrongFalsely : Prop := fnExactStandsRow.holds Tryd.pinned (OpenSpec.ofChange fnExactStandsWrong)

/-- 'laws.FnExactSecretsOf': WHATEVER THE INPUT: true; the input reads as it did. -/
def fnExactSecretsOfSpec : ChangeSpec := { name := "fnExactSecretsOf", vars := ["loop.example/g00082/impl.termShapes"], fn := fun _ => fun
  | [d, g1] => { results := [.lit (.bool true)], args := [d], vars := [g1] }
  | _ => none }
def fnExactSecretsOfRow : OpenClaim := { program := "ytmjfleejjhahiaadoor", sum := "5c2a52a9901c25d25e429c130e92708bfeaa040bb4788ea2aabcd8d890e13372", func := "loop.example/g00082/laws.FnExactSecretsOf", spec := "fnExactSecretsOf", unfollowed := true, recurses := true, named := ["loop.example/g00082/impl.termShapes"], apart := false, laid := [("loop.example/g00082/impl.termShapes", laid_loop_example_g00082_impl_termShapes)] }
def FnExactSecretsOfSaid : Prop := fnExactSecretsOfRow.holds Tryd.pinned (OpenSpec.ofChange fnExactSecretsOfSpec)

/-- ITS FALSE NEIGHBOUR: 'it returns false'. Refute it at one input. -/
def fnExactSecretsOfWrong : ChangeSpec := { name := "fnExactSecretsOf", vars := ["loop.example/g00082/impl.termShapes"], fn := fun _ => fun
  | [d, g1] => { results := [.lit (.bool false)], args := [d], vars := [g1] }
  | _ => none }
def FnExactSecretsOfWrongFalsely : Prop := fnExactSecretsOfRow.holds Tryd.pinned (OpenSpec.ofChange fnExactSecretsOfWrong)

/-- 'laws.FnExactTakeApart': WHATEVER THE INPUT: true; the input reads as it did. -/
def fnExactTakeApartSpec : ChangeSpec := { name := "fnExactTakeApart", vars := ["loop.example/g00082/impl.termShapes"], fn := fun _ => fun
  | [d, g1] => { results := [.lit (.bool true)], args := [d], vars := [g1] }
  | _ => none }
def fnExactTakeApartRow : OpenClaim := { program := "ytmjfleejjhahiaadoor", sum := "5c2a52a9901c25d25e429c130e92708bfeaa040bb4788ea2aabcd8d890e13372", func := "loop.example/g00082/laws.FnExactTakeApart", spec := "fnExactTakeApart", unfollowed := true, recurses := true, named := ["loop.example/g00082/impl.termShapes"], apart := false, laid := [("loop.example/g00082/impl.termShapes", laid_loop_example_g00082_impl_termShapes)] }
def FnExactTakeApartSaid : Prop := fnExactTakeApartRow.holds Tryd.pinned (OpenSpec.ofChange fnExactTakeApartSpec)

/-- ITS FALSE NEIGHBOUR: 'it returns false'. Refute it at one input. -/
def fnExactTakeApartWrong : ChangeSpec := { name := "fnExactTakeApart", vars := ["loop.example/g00082/impl.termShapes"], fn := fun _ => fun
  | [d, g1] => { results := [.lit (.bool false)], args := [d], vars := [g1] }
  | _ => none }
def FnExactTakeApartWrongFalsely : Prop := fnExactTakeApartRow.holds Tryd.pinned (OpenSpec.ofChange fnExactTakeApartWrong)

/-- 'laws.FnExactCanMake': WHATEVER THE INPUT: true; the input reads as it did. -/
def fnExactCanMakeSpec : ChangeSpec := { name := "fnExactCanMake", vars := ["loop.example/g00082/impl.termShapes"], fn := fun _ => fun
  | [d1, d2, g1] => { results := [.lit (.bool true)], args := [d1, d2], vars := [g1] }
  | _ => none }
def fnExactCanMakeRow : OpenClaim := { program := "ytmjfleejjhahiaadoor", sum := "5c2a52a9901c25d25e429c130e92708bfeaa040bb4788ea2aabcd8d890e13372", func := "loop.example/g00082/laws.FnExactCanMake", spec := "fnExactCanMake", unfollowed := true, recurses := true, named := ["loop.example/g00082/impl.termShapes"], apart := false, laid := [("loop.example/g00082/impl.termShapes", laid_loop_example_g00082_impl_termShapes)] }
def FnExactCanMakeSaid : Prop := fnExactCanMakeRow.holds Tryd.pinned (OpenSpec.ofChange fnExactCanMakeSpec)

/-- ITS FALSE NEIGHBOUR: 'it returns false'. Refute it at one input. -/
def fnExactCanMakeWrong : ChangeSpec := { name := "fnExactCanMake", vars := ["loop.example/g00082/impl.termShapes"], fn := fun _ => fun
  | [d1, d2, g1] => { results := [.lit (.bool false)], args := [d1, d2], vars := [g1] }
  | _ => none }
def FnExactCanMakeWrongFalsely : Prop := fnExactCanMakeRow.holds Tryd.pinned (OpenSpec.ofChange fnExactCanMakeWrong)

/-- 'laws.FnExactRunRecipe': WHATEVER THE INPUT: true; the input reads as it did. -/
def fnExactRunRecipeSpec : ChangeSpec := { name := "fnExactRunRecipe", vars := ["loop.example/g00082/impl.termShapes"], fn := fun _ => fun
  | [d1, d2, g1] => { results := [.lit (.bool true)], args := [d1, d2], vars := [g1] }
  | _ => none }
def fnExactRunRecipeRow : OpenClaim := { program := "ytmjfleejjhahiaadoor", sum := "5c2a52a9901c25d25e429c130e92708bfeaa040bb4788ea2aabcd8d890e13372", func := "loop.example/g00082/laws.FnExactRunRecipe", spec := "fnExactRunRecipe", inPlace := ["internal/abi.NoEscape", "internal/bytealg.MakeNoZero"], unfollowed := true, recurses := true, named := ["loop.example/g00082/impl.termShapes"], apart := false, laid := [("loop.example/g00082/impl.termShapes", laid_loop_example_g00082_impl_termShapes)] }
def FnExactRunRecipeSaid : Prop := fnExactRunRecipeRow.holds Tryd.pinned (OpenSpec.ofChange fnExactRunRecipeSpec)

/-- ITS FALSE NEIGHBOUR: 'it returns false'. Refute it at one input. -/
def fnExactRunRecipeWrong : ChangeSpec := { name := "fnExactRunRecipe", vars := ["loop.example/g00082/impl.termShapes"], fn := fun _ => fun
  | [d1, d2, g1] => { results := [.lit (.bool false)], args := [d1, d2], vars := [g1] }
  | _ => none }
def FnExactRunRecipeWrongFalsely : Prop := fnExactRunRecipeRow.holds Tryd.pinned (OpenSpec.ofChange fnExactRunRecipeWrong)

/- THE SECOND FORM. 'bulk': how many values and letters a reading holds, each counted each time it is reached (what is shared counts as often as it is met; a slice's spare places count too). A statement '..UptoSaid' is the law's where the arguments, and the package variables that the reading takes, are together of bulk at most 1048576: NARROWER than '..Said'. Prove '..Said' where nothing that the law and all that it calls make is longer than what came in: it says more and counts as full. Else prove '..UptoSaid'. A law counts once. -/
mutual
def uptoBulk {H : Type} : DataW H → Nat
  | .lit (.string bytes) => bytes.length + 1
  | .lit _ => 1
  | .nil => 1
  | .ptr d => uptoBulk d + 1
  | .slice elems spare => uptoBulkAll elems + uptoBulkAll spare + 1
  | .agg parts => uptoBulkAll parts + 1
  | .iface _ d => uptoBulk d + 1
  | .map entries => uptoBulkEntries entries + 1
  | .held _ => 1
def uptoBulkAll {H : Type} : List (DataW H) → Nat
  | [] => 0
  | d :: r => uptoBulk d + uptoBulkAll r
def uptoBulkEntries {H : Type} : List (Lit × DataW H) → Nat
  | [] => 0
  | x :: r => uptoBulkEntry x + uptoBulkEntries r
def uptoBulkEntry {H : Type} : Lit × DataW H → Nat
  | (.string bytes, d) => bytes.length + uptoBulk d + 1
  | (_, d) => uptoBulk d + 1
 end
def uptoSmall : (H : Type) → List (DataW H) → Bool := fun _ ds => decide (uptoBulkAll ds ≤ 1048576)
def OpenSpec.upto (s : _root_.Go.ChangeSpec) : _root_.Go.OpenSpec := { _root_.Go.OpenSpec.ofChange s with cond := some uptoSmall }

/-- 'laws.FnMade', WHERE WHAT IT READS IS OF BULK AT MOST 1048576: true; the input reads as it did. -/
def fnMadeUptoRow : OpenClaim := { program := "ytmjfleejjhahiaadoor", sum := "5c2a52a9901c25d25e429c130e92708bfeaa040bb4788ea2aabcd8d890e13372", func := "loop.example/g00082/laws.FnMade", spec := "fnMade", inPlace := ["internal/abi.NoEscape", "internal/bytealg.MakeNoZero"], unfollowed := true, recurses := true, named := ["loop.example/g00082/impl.termShapes"], apart := false, laid := [("loop.example/g00082/impl.termShapes", laid_loop_example_g00082_impl_termShapes)], narrowed := true }
def FnMadeUptoSaid : Prop := fnMadeUptoRow.holds Tryd.pinned (OpenSpec.upto fnMadeSpec)

/-- 'laws.FnNumbers', WHERE WHAT IT READS IS OF BULK AT MOST 1048576: true; the input reads as it did. -/
def fnNumbersUptoRow : OpenClaim := { program := "ytmjfleejjhahiaadoor", sum := "5c2a52a9901c25d25e429c130e92708bfeaa040bb4788ea2aabcd8d890e13372", func := "loop.example/g00082/laws.FnNumbers", spec := "fnNumbers", unfollowed := true, recurses := true, named := ["internal/strconv.uint64pow10", "math/bits.deBruijn32tab", "math/bits.deBruijn64tab", "strconv.ErrSyntax", "strconv.ErrRange", "loop.example/g00082/impl.termShapes"], apart := false, laid := [("math/bits.deBruijn32tab", laid_math_bits_deBruijn32tab), ("math/bits.deBruijn64tab", laid_math_bits_deBruijn64tab), ("internal/strconv.uint64pow10", laid_internal_strconv_uint64pow10), ("strconv.ErrRange", laid_strconv_ErrRange), ("strconv.ErrSyntax", laid_strconv_ErrSyntax), ("loop.example/g00082/impl.termShapes", laid_loop_example_g00082_impl_termShapes)], narrowed := true }
def FnNumbersUptoSaid : Prop := fnNumbersUptoRow.holds Tryd.pinned (OpenSpec.upto fnNumbersSpec)

/-- 'laws.FnApart', WHERE WHAT IT READS IS OF BULK AT MOST 1048576: true; the input reads as it did. -/
def fnApartUptoRow : OpenClaim := { program := "ytmjfleejjhahiaadoor", sum := "5c2a52a9901c25d25e429c130e92708bfeaa040bb4788ea2aabcd8d890e13372", func := "loop.example/g00082/laws.FnApart", spec := "fnApart", unfollowed := true, recurses := true, named := ["loop.example/g00082/impl.termShapes"], apart := false, laid := [("loop.example/g00082/impl.termShapes", laid_loop_example_g00082_impl_termShapes)], narrowed := true }
def FnApartUptoSaid : Prop := fnApartUptoRow.holds Tryd.pinned (OpenSpec.upto fnApartSpec)

/-- 'laws.FnRecipes', WHERE WHAT IT READS IS OF BULK AT MOST 1048576: true; the input reads as it did. -/
def fnRecipesUptoRow : OpenClaim := { program := "ytmjfleejjhahiaadoor", sum := "5c2a52a9901c25d25e429c130e92708bfeaa040bb4788ea2aabcd8d890e13372", func := "loop.example/g00082/laws.FnRecipes", spec := "fnRecipes", inPlace := ["internal/abi.NoEscape", "internal/bytealg.MakeNoZero"], unfollowed := true, recurses := true, named := ["loop.example/g00082/impl.termShapes"], apart := false, laid := [("loop.example/g00082/impl.termShapes", laid_loop_example_g00082_impl_termShapes)], narrowed := true }
def FnRecipesUptoSaid : Prop := fnRecipesUptoRow.holds Tryd.pinned (OpenSpec.upto fnRecipesSpec)

/-- 'laws.FnNoSecret', WHERE WHAT IT READS IS OF BULK AT MOST 1048576: true; the input reads as it did. -/
def fnNoSecretUptoRow : OpenClaim := { program := "ytmjfleejjhahiaadoor", sum := "5c2a52a9901c25d25e429c130e92708bfeaa040bb4788ea2aabcd8d890e13372", func := "loop.example/g00082/laws.FnNoSecret", spec := "fnNoSecret", unfollowed := true, recurses := true, named := ["loop.example/g00082/impl.termShapes"], apart := false, laid := [("loop.example/g00082/impl.termShapes", laid_loop_example_g00082_impl_termShapes)], narrowed := true }
def FnNoSecretUptoSaid : Prop := fnNoSecretUptoRow.holds Tryd.pinned (OpenSpec.upto fnNoSecretSpec)

/-- 'laws.FnExactPartsOf', WHERE WHAT IT READS IS OF BULK AT MOST 1048576: true; the input reads as it did. -/
def fnExactPartsOfUptoRow : OpenClaim := { program := "ytmjfleejjhahiaadoor", sum := "5c2a52a9901c25d25e429c130e92708bfeaa040bb4788ea2aabcd8d890e13372", func := "loop.example/g00082/laws.FnExactPartsOf", spec := "fnExactPartsOf", unfollowed := true, recurses := true, named := ["loop.example/g00082/impl.termShapes"], apart := false, laid := [("loop.example/g00082/impl.termShapes", laid_loop_example_g00082_impl_termShapes)], narrowed := true }
def FnExactPartsOfUptoSaid : Prop := fnExactPartsOfUptoRow.holds Tryd.pinned (OpenSpec.upto fnExactPartsOfSpec)

/-- 'laws.FnExactMake', WHERE WHAT IT READS IS OF BULK AT MOST 1048576: true; the input reads as it did. -/
def fnExactMakeUptoRow : OpenClaim := { program := "ytmjfleejjhahiaadoor", sum := "5c2a52a9901c25d25e429c130e92708bfeaa040bb4788ea2aabcd8d890e13372", func := "loop.example/g00082/laws.FnExactMake", spec := "fnExactMake", inPlace := ["internal/abi.NoEscape", "internal/bytealg.MakeNoZero"], unfollowed := true, recurses := true, named := ["loop.example/g00082/impl.termShapes"], apart := false, laid := [("loop.example/g00082/impl.termShapes", laid_loop_example_g00082_impl_termShapes)], narrowed := true }
def FnExactMakeUptoSaid : Prop := fnExactMakeUptoRow.holds Tryd.pinned (OpenSpec.upto fnExactMakeSpec)

/-- 'laws.FnExactStands', WHERE WHAT IT READS IS OF BULK AT MOST 1048576: true; the input reads as it did. -/
def fnExactStandsUptoRow : OpenClaim := { program := "ytmjfleejjhahiaadoor", sum := "5c2a52a9901c25d25e429c130e92708bfeaa040bb4788ea2aabcd8d890e13372", func := "loop.example/g00082/laws.FnExactStands", spec := "fnExactStands", unfollowed := true, recurses := true, named := ["loop.example/g00082/impl.termShapes"], apart := false, laid := [("loop.example/g00082/impl.termShapes", laid_loop_example_g00082_impl_termShapes)], narrowed := true }
def FnExactStandsUptoSaid : Prop := fnExactStandsUptoRow.holds Tryd.pinned (OpenSpec.upto fnExactStandsSpec)

/-- 'laws.FnExactSecretsOf', WHERE WHAT IT READS IS OF BULK AT MOST 1048576: true; the input reads as it did. -/
def fnExactSecretsOfUptoRow : OpenClaim := { program := "ytmjfleejjhahiaadoor", sum := "5c2a52a9901c25d25e429c130e92708bfeaa040bb4788ea2aabcd8d890e13372", func := "loop.example/g00082/laws.FnExactSecretsOf", spec := "fnExactSecretsOf", unfollowed := true, recurses := true, named := ["loop.example/g00082/impl.termShapes"], apart := false, laid := [("loop.example/g00082/impl.termShapes", laid_loop_example_g00082_impl_termShapes)], narrowed := true }
def FnExactSecretsOfUptoSaid : Prop := fnExactSecretsOfUptoRow.holds Tryd.pinned (OpenSpec.upto fnExactSecretsOfSpec)

/-- 'laws.FnExactTakeApart', WHERE WHAT IT READS IS OF BULK AT MOST 1048576: true; the input reads as it did. -/
def fnExactTakeApartUptoRow : OpenClaim := { program := "ytmjfleejjhahiaadoor", sum := "5c2a52a9901c25d25e429c130e92708bfeaa040bb4788ea2aabcd8d890e13372", func := "loop.example/g00082/laws.FnExactTakeApart", spec := "fnExactTakeApart", unfollowed := true, recurses := true, named := ["loop.example/g00082/impl.termShapes"], apart := false, laid := [("loop.example/g00082/impl.termShapes", laid_loop_example_g00082_impl_termShapes)], narrowed := true }
def FnExactTakeApartUptoSaid : Prop := fnExactTakeApartUptoRow.holds Tryd.pinned (OpenSpec.upto fnExactTakeApartSpec)

/-- 'laws.FnExactCanMake', WHERE WHAT IT READS IS OF BULK AT MOST 1048576: true; the input reads as it did. -/
def fnExactCanMakeUptoRow : OpenClaim := { program := "ytmjfleejjhahiaadoor", sum := "5c2a52a9901c25d25e429c130e92708bfeaa040bb4788ea2aabcd8d890e13372", func := "loop.example/g00082/laws.FnExactCanMake", spec := "fnExactCanMake", unfollowed := true, recurses := true, named := ["loop.example/g00082/impl.termShapes"], apart := false, laid := [("loop.example/g00082/impl.termShapes", laid_loop_example_g00082_impl_termShapes)], narrowed := true }
def FnExactCanMakeUptoSaid : Prop := fnExactCanMakeUptoRow.holds Tryd.pinned (OpenSpec.upto fnExactCanMakeSpec)

/-- 'laws.FnExactRunRecipe', WHERE WHAT IT READS IS OF BULK AT MOST 1048576: true; the input reads as it did. -/
def fnExactRunRecipeUptoRow : OpenClaim := { program := "ytmjfleejjhahiaadoor", sum := "5c2a52a9901c25d25e429c130e92708bfeaa040bb4788ea2aabcd8d890e13372", func := "loop.example/g00082/laws.FnExactRunRecipe", spec := "fnExactRunRecipe", inPlace := ["internal/abi.NoEscape", "internal/bytealg.MakeNoZero"], unfollowed := true, recurses := true, named := ["loop.example/g00082/impl.termShapes"], apart := false, laid := [("loop.example/g00082/impl.termShapes", laid_loop_example_g00082_impl_termShapes)], narrowed := true }
def FnExactRunRecipeUptoSaid : Prop := fnExactRunRecipeUptoRow.holds Tryd.pinned (OpenSpec.upto fnExactRunRecipeSpec)

end Rows
end Go.Proofs.YtmjfleejjhahiaaDoor
