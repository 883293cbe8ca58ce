/-
  No cell of these rows narrows 'for every input' (looked for: loops, veiled, ifaces, maps, wideKeys, modest, calm, conditions, laid).
  DERIVED. THE GIVEN ROWS OF THIS SEAT. 12 by the template 'for every input the law returns true; each argument reads behind the call as it read before'; 0 by the template 'total and deterministic' (their statements: YtcpbofgfnbiieaaTotals.lean).
  GIVEN WITH THE SEED: the statements are not yours to turn. If you find one false, say at which input.
  Laid BY PROGRAM, IN A SANDBOX (cutbox-rows.mjs): the forced cells as the released guide's own fill.sh prints them over the translation 6dca22df5ca553a7… (all of the seat's roots in one cut). By AI agents, Wed Nov 11 2026. No macro, syntax, notation, axiom, sorry.
-/
import Derived.Test.YtcpbofgfnbiieaaChecked
import GoSem.Claim
import GoSem.ClaimJoined
import GoSem.ClaimMapViews
import Derived.JoinedTies
import Derived.KernelRfl
namespace Go.Proofs.Ytcpbofgfnbiieaa
/- THE CELL 'sum', in the pinned program and in every row, IS THE sha256 OF THE DUMP (.gsa) THAT YtcpbofgfnbiieaaProg.lean LOADS. Nothing in Lean hashes anything: it is a label: what it is worth is what the hold of that sum in a sandbox is worth. -/
noncomputable def Try.pinned : Pinned := { name := "ytcpbofgfnbiieaa", sum := "6dca22df5ca553a71c28fdc7639b98d671dce060b1cbe9d2691b63989c124f19", checked := Try.checked }
namespace Rows
def none {H : Type} : Left H := { results := [], args := [] }

/-- 'laws.FnExactSame': WHATEVER THE INPUT: true; the input reads as it did. -/
def fnExactSameSpec : ChangeSpec := { name := "fnExactSame", fn := fun _ => fun
  | [d1, d2] => { results := [.lit (.bool true)], args := [d1, d2] }
  | _ => none }
def fnExactSameRow : OpenClaim := { program := "ytcpbofgfnbiieaa", sum := "6dca22df5ca553a71c28fdc7639b98d671dce060b1cbe9d2691b63989c124f19", func := "loop.example/g00082/laws.FnExactSame", spec := "fnExactSame", inPlace := ["math.Float64bits"], apart := false }
def FnExactSameSaid : Prop := fnExactSameRow.holds Try.pinned (OpenSpec.ofChange fnExactSameSpec)

/-- ITS FALSE NEIGHBOUR: 'it returns false'. Refute it at one input. -/
def fnExactSameWrong : ChangeSpec := { name := "fnExactSame", fn := fun _ => fun
  | [d1, d2] => { results := [.lit (.bool false)], args := [d1, d2] }
  | _ => none }
def FnExactSameWrongFalsely : Prop := fnExactSameRow.holds Try.pinned (OpenSpec.ofChange fnExactSameWrong)

/-- 'laws.FnExactKnown': WHATEVER THE INPUT: true; the input reads as it did. -/
def fnExactKnownSpec : ChangeSpec := { name := "fnExactKnown", fn := fun _ => fun
  | [d] => { results := [.lit (.bool true)], args := [d] }
  | _ => none }
def fnExactKnownRow : OpenClaim := { program := "ytcpbofgfnbiieaa", sum := "6dca22df5ca553a71c28fdc7639b98d671dce060b1cbe9d2691b63989c124f19", func := "loop.example/g00082/laws.FnExactKnown", spec := "fnExactKnown", inPlace := ["math.Float64bits", "math.Float64frombits"], apart := false }
def FnExactKnownSaid : Prop := fnExactKnownRow.holds Try.pinned (OpenSpec.ofChange fnExactKnownSpec)

/-- ITS FALSE NEIGHBOUR: 'it returns false'. Refute it at one input. -/
def fnExactKnownWrong : ChangeSpec := { name := "fnExactKnown", fn := fun _ => fun
  | [d] => { results := [.lit (.bool false)], args := [d] }
  | _ => none }
def FnExactKnownWrongFalsely : Prop := fnExactKnownRow.holds Try.pinned (OpenSpec.ofChange fnExactKnownWrong)

/-- 'laws.FnExactBlend': WHATEVER THE INPUT: true; the input reads as it did. -/
def fnExactBlendSpec : ChangeSpec := { name := "fnExactBlend", fn := fun _ => fun
  | [d] => { results := [.lit (.bool true)], args := [d] }
  | _ => none }
def fnExactBlendRow : OpenClaim := { program := "ytcpbofgfnbiieaa", sum := "6dca22df5ca553a71c28fdc7639b98d671dce060b1cbe9d2691b63989c124f19", func := "loop.example/g00082/laws.FnExactBlend", spec := "fnExactBlend", inPlace := ["math.Float64frombits", "math.Float64bits"], apart := false }
def FnExactBlendSaid : Prop := fnExactBlendRow.holds Try.pinned (OpenSpec.ofChange fnExactBlendSpec)

/-- ITS FALSE NEIGHBOUR: 'it returns false'. Refute it at one input. -/
def fnExactBlendWrong : ChangeSpec := { name := "fnExactBlend", fn := fun _ => fun
  | [d] => { results := [.lit (.bool false)], args := [d] }
  | _ => none }
def FnExactBlendWrongFalsely : Prop := fnExactBlendRow.holds Try.pinned (OpenSpec.ofChange fnExactBlendWrong)

/-- 'laws.FnExactAbove': WHATEVER THE INPUT: true; the input reads as it did. -/
def fnExactAboveSpec : ChangeSpec := { name := "fnExactAbove", fn := fun _ => fun
  | [d] => { results := [.lit (.bool true)], args := [d] }
  | _ => none }
def fnExactAboveRow : OpenClaim := { program := "ytcpbofgfnbiieaa", sum := "6dca22df5ca553a71c28fdc7639b98d671dce060b1cbe9d2691b63989c124f19", func := "loop.example/g00082/laws.FnExactAbove", spec := "fnExactAbove", inPlace := ["math.Float64bits", "math.Float64frombits"], apart := false }
def FnExactAboveSaid : Prop := fnExactAboveRow.holds Try.pinned (OpenSpec.ofChange fnExactAboveSpec)

/-- ITS FALSE NEIGHBOUR: 'it returns false'. Refute it at one input. -/
def fnExactAboveWrong : ChangeSpec := { name := "fnExactAbove", fn := fun _ => fun
  | [d] => { results := [.lit (.bool false)], args := [d] }
  | _ => none }
def FnExactAboveWrongFalsely : Prop := fnExactAboveRow.holds Try.pinned (OpenSpec.ofChange fnExactAboveWrong)

/-- 'laws.FnExactDecay': WHATEVER THE INPUT: true; the input reads as it did. -/
def fnExactDecaySpec : ChangeSpec := { name := "fnExactDecay", fn := fun _ => fun
  | [d1, d2] => { results := [.lit (.bool true)], args := [d1, d2] }
  | _ => none }
def fnExactDecayRow : OpenClaim := { program := "ytcpbofgfnbiieaa", sum := "6dca22df5ca553a71c28fdc7639b98d671dce060b1cbe9d2691b63989c124f19", func := "loop.example/g00082/laws.FnExactDecay", spec := "fnExactDecay", inPlace := ["math.Float64frombits"], apart := false }
def FnExactDecaySaid : Prop := fnExactDecayRow.holds Try.pinned (OpenSpec.ofChange fnExactDecaySpec)

/-- ITS FALSE NEIGHBOUR: 'it returns false'. Refute it at one input. -/
def fnExactDecayWrong : ChangeSpec := { name := "fnExactDecay", fn := fun _ => fun
  | [d1, d2] => { results := [.lit (.bool false)], args := [d1, d2] }
  | _ => none }
def FnExactDecayWrongFalsely : Prop := fnExactDecayRow.holds Try.pinned (OpenSpec.ofChange fnExactDecayWrong)

/-- 'laws.FnExactWithin': WHATEVER THE INPUT: true; the input reads as it did. -/
def fnExactWithinSpec : ChangeSpec := { name := "fnExactWithin", fn := fun _ => fun
  | [d1, d2, d3] => { results := [.lit (.bool true)], args := [d1, d2, d3] }
  | _ => none }
def fnExactWithinRow : OpenClaim := { program := "ytcpbofgfnbiieaa", sum := "6dca22df5ca553a71c28fdc7639b98d671dce060b1cbe9d2691b63989c124f19", func := "loop.example/g00082/laws.FnExactWithin", spec := "fnExactWithin", inPlace := ["math.Float64frombits"], apart := false }
def FnExactWithinSaid : Prop := fnExactWithinRow.holds Try.pinned (OpenSpec.ofChange fnExactWithinSpec)

/-- ITS FALSE NEIGHBOUR: 'it returns false'. Refute it at one input. -/
def fnExactWithinWrong : ChangeSpec := { name := "fnExactWithin", fn := fun _ => fun
  | [d1, d2, d3] => { results := [.lit (.bool false)], args := [d1, d2, d3] }
  | _ => none }
def FnExactWithinWrongFalsely : Prop := fnExactWithinRow.holds Try.pinned (OpenSpec.ofChange fnExactWithinWrong)

/-- 'laws.FnExactSure': WHATEVER THE INPUT: true; the input reads as it did. -/
def fnExactSureSpec : ChangeSpec := { name := "fnExactSure", fn := fun _ => fun
  | [d1, d2] => { results := [.lit (.bool true)], args := [d1, d2] }
  | _ => none }
def fnExactSureRow : OpenClaim := { program := "ytcpbofgfnbiieaa", sum := "6dca22df5ca553a71c28fdc7639b98d671dce060b1cbe9d2691b63989c124f19", func := "loop.example/g00082/laws.FnExactSure", spec := "fnExactSure", inPlace := ["math.Float64frombits"], apart := false }
def FnExactSureSaid : Prop := fnExactSureRow.holds Try.pinned (OpenSpec.ofChange fnExactSureSpec)

/-- ITS FALSE NEIGHBOUR: 'it returns false'. Refute it at one input. -/
def fnExactSureWrong : ChangeSpec := { name := "fnExactSure", fn := fun _ => fun
  | [d1, d2] => { results := [.lit (.bool false)], args := [d1, d2] }
  | _ => none }
def FnExactSureWrongFalsely : Prop := fnExactSureRow.holds Try.pinned (OpenSpec.ofChange fnExactSureWrong)

/-- 'laws.FnExactShownAt': WHATEVER THE INPUT: true; the input reads as it did. -/
def fnExactShownAtSpec : ChangeSpec := { name := "fnExactShownAt", fn := fun _ => fun
  | [d1, d2] => { results := [.lit (.bool true)], args := [d1, d2] }
  | _ => none }
def fnExactShownAtRow : OpenClaim := { program := "ytcpbofgfnbiieaa", sum := "6dca22df5ca553a71c28fdc7639b98d671dce060b1cbe9d2691b63989c124f19", func := "loop.example/g00082/laws.FnExactShownAt", spec := "fnExactShownAt", inPlace := ["math.Float64bits", "math.Float64frombits"], apart := false }
def FnExactShownAtSaid : Prop := fnExactShownAtRow.holds Try.pinned (OpenSpec.ofChange fnExactShownAtSpec)

/-- ITS FALSE NEIGHBOUR: 'it returns false'. Refute it at one input. -/
def fnExactShownAtWrong : ChangeSpec := { name := "fnExactShownAt", fn := fun _ => fun
  | [d1, d2] => { results := [.lit (.bool false)], args := [d1, d2] }
  | _ => none }
def FnExactShownAtWrongFalsely : Prop := fnExactShownAtRow.holds Try.pinned (OpenSpec.ofChange fnExactShownAtWrong)

/-- 'laws.FnExactTickAt': WHATEVER THE INPUT: true; the input reads as it did. -/
def fnExactTickAtSpec : ChangeSpec := { name := "fnExactTickAt", fn := fun _ => fun
  | [d1, d2] => { results := [.lit (.bool true)], args := [d1, d2] }
  | _ => none }
def fnExactTickAtRow : OpenClaim := { program := "ytcpbofgfnbiieaa", sum := "6dca22df5ca553a71c28fdc7639b98d671dce060b1cbe9d2691b63989c124f19", func := "loop.example/g00082/laws.FnExactTickAt", spec := "fnExactTickAt", inPlace := ["math.Float64bits", "math.Float64frombits"], unfollowed := true, recurses := true, apart := false }
def FnExactTickAtSaid : Prop := fnExactTickAtRow.holds Try.pinned (OpenSpec.ofChange fnExactTickAtSpec)

/-- ITS FALSE NEIGHBOUR: 'it returns false'. Refute it at one input. -/
def fnExactTickAtWrong : ChangeSpec := { name := "fnExactTickAt", fn := fun _ => fun
  | [d1, d2] => { results := [.lit (.bool false)], args := [d1, d2] }
  | _ => none }
def FnExactTickAtWrongFalsely : Prop := fnExactTickAtRow.holds Try.pinned (OpenSpec.ofChange fnExactTickAtWrong)

/-- 'laws.FnExactFresh': WHATEVER THE INPUT: true; the input reads as it did. -/
def fnExactFreshSpec : ChangeSpec := { name := "fnExactFresh", fn := fun _ => fun
  | [d1, d2, d3] => { results := [.lit (.bool true)], args := [d1, d2, d3] }
  | _ => none }
def fnExactFreshRow : OpenClaim := { program := "ytcpbofgfnbiieaa", sum := "6dca22df5ca553a71c28fdc7639b98d671dce060b1cbe9d2691b63989c124f19", func := "loop.example/g00082/laws.FnExactFresh", spec := "fnExactFresh", apart := false }
def FnExactFreshSaid : Prop := fnExactFreshRow.holds Try.pinned (OpenSpec.ofChange fnExactFreshSpec)

/-- ITS FALSE NEIGHBOUR: 'it returns false'. Refute it at one input. -/
def fnExactFreshWrong : ChangeSpec := { name := "fnExactFresh", fn := fun _ => fun
  | [d1, d2, d3] => { results := [.lit (.bool false)], args := [d1, d2, d3] }
  | _ => none }
def FnExactFreshWrongFalsely : Prop := fnExactFreshRow.holds Try.pinned (OpenSpec.ofChange fnExactFreshWrong)

/-- 'laws.FnExactOverlap': WHATEVER THE INPUT: true; the input reads as it did. -/
def fnExactOverlapSpec : ChangeSpec := { name := "fnExactOverlap", fn := fun _ => fun
  | [d1, d2] => { results := [.lit (.bool true)], args := [d1, d2] }
  | _ => none }
def fnExactOverlapRow : OpenClaim := { program := "ytcpbofgfnbiieaa", sum := "6dca22df5ca553a71c28fdc7639b98d671dce060b1cbe9d2691b63989c124f19", func := "loop.example/g00082/laws.FnExactOverlap", spec := "fnExactOverlap", unfollowed := true, recurses := true, apart := false }
def FnExactOverlapSaid : Prop := fnExactOverlapRow.holds Try.pinned (OpenSpec.ofChange fnExactOverlapSpec)

/-- ITS FALSE NEIGHBOUR: 'it returns false'. Refute it at one input. -/
def fnExactOverlapWrong : ChangeSpec := { name := "fnExactOverlap", fn := fun _ => fun
  | [d1, d2] => { results := [.lit (.bool false)], args := [d1, d2] }
  | _ => none }
def FnExactOverlapWrongFalsely : Prop := fnExactOverlapRow.holds Try.pinned (OpenSpec.ofChange fnExactOverlapWrong)

/-- 'laws.FnExactMarked': WHATEVER THE INPUT: true; the input reads as it did. -/
def fnExactMarkedSpec : ChangeSpec := { name := "fnExactMarked", fn := fun _ => fun
  | [d1, d2, d3] => { results := [.lit (.bool true)], args := [d1, d2, d3] }
  | _ => none }
def fnExactMarkedRow : OpenClaim := { program := "ytcpbofgfnbiieaa", sum := "6dca22df5ca553a71c28fdc7639b98d671dce060b1cbe9d2691b63989c124f19", func := "loop.example/g00082/laws.FnExactMarked", spec := "fnExactMarked", apart := false }
def FnExactMarkedSaid : Prop := fnExactMarkedRow.holds Try.pinned (OpenSpec.ofChange fnExactMarkedSpec)

/-- ITS FALSE NEIGHBOUR: 'it returns false'. Refute it at one input. -/
def fnExactMarkedWrong : ChangeSpec := { name := "fnExactMarked", fn := fun _ => fun
  | [d1, d2, d3] => { results := [.lit (.bool false)], args := [d1, d2, d3] }
  | _ => none }
def FnExactMarkedWrongFalsely : Prop := fnExactMarkedRow.holds Try.pinned (OpenSpec.ofChange fnExactMarkedWrong)

/- THE SECOND FORM. 'bulk': how many values and letters a reading holds, each counted each time it is reached (what is shared counts as often as it is met; a slice's spare places count too). A statement '..UptoSaid' is the law's where the arguments, and the package variables that the reading takes, are together of bulk at most 1048576: NARROWER than '..Said'. Prove '..Said' where nothing that the law and all that it calls make is longer than what came in: it says more and counts as full. Else prove '..UptoSaid'. A law counts once. -/
mutual
def uptoBulk {H : Type} : DataW H → Nat
  | .lit (.string bytes) => bytes.length + 1
  | .lit _ => 1
  | .nil => 1
  | .ptr d => uptoBulk d + 1
  | .slice elems spare => uptoBulkAll elems + uptoBulkAll spare + 1
  | .agg parts => uptoBulkAll parts + 1
  | .iface _ d => uptoBulk d + 1
  | .map entries => uptoBulkEntries entries + 1
  | .held _ => 1
def uptoBulkAll {H : Type} : List (DataW H) → Nat
  | [] => 0
  | d :: r => uptoBulk d + uptoBulkAll r
def uptoBulkEntries {H : Type} : List (Lit × DataW H) → Nat
  | [] => 0
  | x :: r => uptoBulkEntry x + uptoBulkEntries r
def uptoBulkEntry {H : Type} : Lit × DataW H → Nat
  | (.string bytes, d) => bytes.length + uptoBulk d + 1
  | (_, d) => uptoBulk d + 1
 end
def uptoSmall : (H : Type) → List (DataW H) → Bool := fun _ ds => decide (uptoBulkAll ds ≤ 1048576)
def OpenSpec.upto (s : _root_.Go.ChangeSpec) : _root_.Go.OpenSpec := { _root_.Go.OpenSpec.ofChange s with cond := some uptoSmall }

/-- 'laws.FnExactSame', WHERE WHAT IT READS IS OF BULK AT MOST 1048576: true; the input reads as it did. -/
def fnExactSameUptoRow : OpenClaim := { program := "ytcpbofgfnbiieaa", sum := "6dca22df5ca553a71c28fdc7639b98d671dce060b1cbe9d2691b63989c124f19", func := "loop.example/g00082/laws.FnExactSame", spec := "fnExactSame", inPlace := ["math.Float64bits"], apart := false, narrowed := true }
def FnExactSameUptoSaid : Prop := fnExactSameUptoRow.holds Try.pinned (OpenSpec.upto fnExactSameSpec)

/-- 'laws.FnExactKnown', WHERE WHAT IT READS IS OF BULK AT MOST 1048576: true; the input reads as it did. -/
def fnExactKnownUptoRow : OpenClaim := { program := "ytcpbofgfnbiieaa", sum := "6dca22df5ca553a71c28fdc7639b98d671dce060b1cbe9d2691b63989c124f19", func := "loop.example/g00082/laws.FnExactKnown", spec := "fnExactKnown", inPlace := ["math.Float64bits", "math.Float64frombits"], apart := false, narrowed := true }
def FnExactKnownUptoSaid : Prop := fnExactKnownUptoRow.holds Try.pinned (OpenSpec.upto fnExactKnownSpec)

/-- 'laws.FnExactBlend', WHERE WHAT IT READS IS OF BULK AT MOST 1048576: true; the input reads as it did. -/
def fnExactBlendUptoRow : OpenClaim := { program := "ytcpbofgfnbiieaa", sum := "6dca22df5ca553a71c28fdc7639b98d671dce060b1cbe9d2691b63989c124f19", func := "loop.example/g00082/laws.FnExactBlend", spec := "fnExactBlend", inPlace := ["math.Float64frombits", "math.Float64bits"], apart := false, narrowed := true }
def FnExactBlendUptoSaid : Prop := fnExactBlendUptoRow.holds Try.pinned (OpenSpec.upto fnExactBlendSpec)

/-- 'laws.FnExactAbove', WHERE WHAT IT READS IS OF BULK AT MOST 1048576: true; the input reads as it did. -/
def fnExactAboveUptoRow : OpenClaim := { program := "ytcpbofgfnbiieaa", sum := "6dca22df5ca553a71c28fdc7639b98d671dce060b1cbe9d2691b63989c124f19", func := "loop.example/g00082/laws.FnExactAbove", spec := "fnExactAbove", inPlace := ["math.Float64bits", "math.Float64frombits"], apart := false, narrowed := true }
def FnExactAboveUptoSaid : Prop := fnExactAboveUptoRow.holds Try.pinned (OpenSpec.upto fnExactAboveSpec)

/-- 'laws.FnExactDecay', WHERE WHAT IT READS IS OF BULK AT MOST 1048576: true; the input reads as it did. -/
def fnExactDecayUptoRow : OpenClaim := { program := "ytcpbofgfnbiieaa", sum := "6dca22df5ca553a71c28fdc7639b98d671dce060b1cbe9d2691b63989c124f19", func := "loop.example/g00082/laws.FnExactDecay", spec := "fnExactDecay", inPlace := ["math.Float64frombits"], apart := false, narrowed := true }
def FnExactDecayUptoSaid : Prop := fnExactDecayUptoRow.holds Try.pinned (OpenSpec.upto fnExactDecaySpec)

/-- 'laws.FnExactWithin', WHERE WHAT IT READS IS OF BULK AT MOST 1048576: true; the input reads as it did. -/
def fnExactWithinUptoRow : OpenClaim := { program := "ytcpbofgfnbiieaa", sum := "6dca22df5ca553a71c28fdc7639b98d671dce060b1cbe9d2691b63989c124f19", func := "loop.example/g00082/laws.FnExactWithin", spec := "fnExactWithin", inPlace := ["math.Float64frombits"], apart := false, narrowed := true }
def FnExactWithinUptoSaid : Prop := fnExactWithinUptoRow.holds Try.pinned (OpenSpec.upto fnExactWithinSpec)

/-- 'laws.FnExactSure', WHERE WHAT IT READS IS OF BULK AT MOST 1048576: true; the input reads as it did. -/
def fnExactSureUptoRow : OpenClaim := { program := "ytcpbofgfnbiieaa", sum := "6dca22df5ca553a71c28fdc7639b98d671dce060b1cbe9d2691b63989c124f19", func := "loop.example/g00082/laws.FnExactSure", spec := "fnExactSure", inPlace := ["math.Float64frombits"], apart := false, narrowed := true }
def FnExactSureUptoSaid : Prop := fnExactSureUptoRow.holds Try.pinned (OpenSpec.upto fnExactSureSpec)

/-- 'laws.FnExactShownAt', WHERE WHAT IT READS IS OF BULK AT MOST 1048576: true; the input reads as it did. -/
def fnExactShownAtUptoRow : OpenClaim := { program := "ytcpbofgfnbiieaa", sum := "6dca22df5ca553a71c28fdc7639b98d671dce060b1cbe9d2691b63989c124f19", func := "loop.example/g00082/laws.FnExactShownAt", spec := "fnExactShownAt", inPlace := ["math.Float64bits", "math.Float64frombits"], apart := false, narrowed := true }
def FnExactShownAtUptoSaid : Prop := fnExactShownAtUptoRow.holds Try.pinned (OpenSpec.upto fnExactShownAtSpec)

/-- 'laws.FnExactTickAt', WHERE WHAT IT READS IS OF BULK AT MOST 1048576: true; the input reads as it did. -/
def fnExactTickAtUptoRow : OpenClaim := { program := "ytcpbofgfnbiieaa", sum := "6dca22df5ca553a71c28fdc7639b98d671dce060b1cbe9d2691b63989c124f19", func := "loop.example/g00082/laws.FnExactTickAt", spec := "fnExactTickAt", inPlace := ["math.Float64bits", "math.Float64frombits"], unfollowed := true, recurses := true, apart := false, narrowed := true }
def FnExactTickAtUptoSaid : Prop := fnExactTickAtUptoRow.holds Try.pinned (OpenSpec.upto fnExactTickAtSpec)

/-- 'laws.FnExactFresh', WHERE WHAT IT READS IS OF BULK AT MOST 1048576: true; the input reads as it did. -/
def fnExactFreshUptoRow : OpenClaim := { program := "ytcpbofgfnbiieaa", sum := "6dca22df5ca553a71c28fdc7639b98d671dce060b1cbe9d2691b63989c124f19", func := "loop.example/g00082/laws.FnExactFresh", spec := "fnExactFresh", apart := false, narrowed := true }
def FnExactFreshUptoSaid : Prop := fnExactFreshUptoRow.holds Try.pinned (OpenSpec.upto fnExactFreshSpec)

/-- 'laws.FnExactOverlap', WHERE WHAT IT READS IS OF BULK AT MOST 1048576: true; the input reads as it did. -/
def fnExactOverlapUptoRow : OpenClaim := { program := "ytcpbofgfnbiieaa", sum := "6dca22df5ca553a71c28fdc7639b98d671dce060b1cbe9d2691b63989c124f19", func := "loop.example/g00082/laws.FnExactOverlap", spec := "fnExactOverlap", unfollowed := true, recurses := true, apart := false, narrowed := true }
def FnExactOverlapUptoSaid : Prop := fnExactOverlapUptoRow.holds Try.pinned (OpenSpec.upto fnExactOverlapSpec)

/-- 'laws.FnExactMarked', WHERE WHAT IT READS IS OF BULK AT MOST 1048576: true; the input reads as it did. -/
def fnExactMarkedUptoRow : OpenClaim := { program := "ytcpbofgfnbiieaa", sum := "6dca22df5ca553a71c28fdc7639b98d671dce060b1cbe9d2691b63989c124f19", func := "loop.example/g00082/laws.FnExactMarked", spec := "fnExactMarked", apart := false, narrowed := true }
def FnExactMarkedUptoSaid : Prop := fnExactMarkedUptoRow.holds Try.pinned (OpenSpec.upto fnExactMarkedSpec)

end Rows
end Go.Proofs.Ytcpbofgfnbiieaa
