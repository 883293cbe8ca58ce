/-
  No cell of these rows narrows 'for every input' (looked for: loops, veiled, ifaces, maps, wideKeys, modest, calm, conditions, laid).
  DERIVED. THE GIVEN ROWS OF THIS SEAT. 12 by the template 'for every input the law returns true; each argument reads behind the call as it read before'; 0 by the template 'total and deterministic' (their statements: YtpecdbgbiecdgaaTotals.lean).
  GIVEN WITH THE SEED: the statements are not yours to turn. If you find one false, say at which input.
  Laid BY PROGRAM, IN A SANDBOX (cutbox-rows.mjs): the forced cells as the released guide's own fill.sh prints them over the translation ab816c877bd95739… (all of the seat's roots in one cut). By AI agents, Wed Nov 11 2026. No macro, syntax, notation, axiom, sorry.
-/
import Derived.Test.YtpecdbgbiecdgaaChecked
import GoSem.Claim
import GoSem.ClaimJoined
import GoSem.ClaimMapViews
import Derived.JoinedTies
import Derived.KernelRfl
namespace Go.Proofs.Ytpecdbgbiecdgaa
/- THE CELL 'sum', in the pinned program and in every row, IS THE sha256 OF THE DUMP (.gsa) THAT YtpecdbgbiecdgaaProg.lean LOADS. Nothing in Lean hashes anything: it is a label: what it is worth is what the hold of that sum in a sandbox is worth. -/
noncomputable def Try.pinned : Pinned := { name := "ytpecdbgbiecdgaa", sum := "ab816c877bd95739e755ddda2e3804efc988cb1b76ab566e6f162e7f18efceb0", checked := Try.checked }
namespace Rows
def none {H : Type} : Left H := { results := [], args := [] }

/-- 'laws.FnExactRanked': WHATEVER THE INPUT: true; the input reads as it did. -/
def fnExactRankedSpec : ChangeSpec := { name := "fnExactRanked", fn := fun _ => fun
  | [d] => { results := [.lit (.bool true)], args := [d] }
  | _ => none }
def fnExactRankedRow : OpenClaim := { program := "ytpecdbgbiecdgaa", sum := "ab816c877bd95739e755ddda2e3804efc988cb1b76ab566e6f162e7f18efceb0", func := "loop.example/g00082/laws.FnExactRanked", spec := "fnExactRanked", inPlace := ["math.Float64bits"], unfollowed := true, recurses := true, apart := false }
def FnExactRankedSaid : Prop := fnExactRankedRow.holds Try.pinned (OpenSpec.ofChange fnExactRankedSpec)

/-- ITS FALSE NEIGHBOUR: 'it returns false'. Refute it at one input. -/
def fnExactRankedWrong : ChangeSpec := { name := "fnExactRanked", fn := fun _ => fun
  | [d] => { results := [.lit (.bool false)], args := [d] }
  | _ => none }
def FnExactRankedWrongFalsely : Prop := fnExactRankedRow.holds Try.pinned (OpenSpec.ofChange fnExactRankedWrong)

/-- 'laws.FnExactMedian': WHATEVER THE INPUT: true; the input reads as it did. -/
def fnExactMedianSpec : ChangeSpec := { name := "fnExactMedian", fn := fun _ => fun
  | [d] => { results := [.lit (.bool true)], args := [d] }
  | _ => none }
def fnExactMedianRow : OpenClaim := { program := "ytpecdbgbiecdgaa", sum := "ab816c877bd95739e755ddda2e3804efc988cb1b76ab566e6f162e7f18efceb0", func := "loop.example/g00082/laws.FnExactMedian", spec := "fnExactMedian", inPlace := ["math.Float64frombits", "math.Float64bits"], unfollowed := true, recurses := true, apart := false }
def FnExactMedianSaid : Prop := fnExactMedianRow.holds Try.pinned (OpenSpec.ofChange fnExactMedianSpec)

/-- ITS FALSE NEIGHBOUR: 'it returns false'. Refute it at one input. -/
def fnExactMedianWrong : ChangeSpec := { name := "fnExactMedian", fn := fun _ => fun
  | [d] => { results := [.lit (.bool false)], args := [d] }
  | _ => none }
def FnExactMedianWrongFalsely : Prop := fnExactMedianRow.holds Try.pinned (OpenSpec.ofChange fnExactMedianWrong)

/-- 'laws.FnExactFitClock': WHATEVER THE INPUT: true; the input reads as it did. -/
def fnExactFitClockSpec : ChangeSpec := { name := "fnExactFitClock", fn := fun _ => fun
  | [d1, d2] => { results := [.lit (.bool true)], args := [d1, d2] }
  | _ => none }
def fnExactFitClockRow : OpenClaim := { program := "ytpecdbgbiecdgaa", sum := "ab816c877bd95739e755ddda2e3804efc988cb1b76ab566e6f162e7f18efceb0", func := "loop.example/g00082/laws.FnExactFitClock", spec := "fnExactFitClock", inPlace := ["math.Float64bits", "math.Float64frombits"], apart := false }
def FnExactFitClockSaid : Prop := fnExactFitClockRow.holds Try.pinned (OpenSpec.ofChange fnExactFitClockSpec)

/-- ITS FALSE NEIGHBOUR: 'it returns false'. Refute it at one input. -/
def fnExactFitClockWrong : ChangeSpec := { name := "fnExactFitClock", fn := fun _ => fun
  | [d1, d2] => { results := [.lit (.bool false)], args := [d1, d2] }
  | _ => none }
def FnExactFitClockWrongFalsely : Prop := fnExactFitClockRow.holds Try.pinned (OpenSpec.ofChange fnExactFitClockWrong)

/-- 'laws.FnAboveNext': WHATEVER THE INPUT: true; the input reads as it did. -/
def fnAboveNextSpec : ChangeSpec := { name := "fnAboveNext", fn := fun _ => fun
  | [d] => { results := [.lit (.bool true)], args := [d] }
  | _ => none }
def fnAboveNextRow : OpenClaim := { program := "ytpecdbgbiecdgaa", sum := "ab816c877bd95739e755ddda2e3804efc988cb1b76ab566e6f162e7f18efceb0", func := "loop.example/g00082/laws.FnAboveNext", spec := "fnAboveNext", inPlace := ["math.Float64bits", "math.Float64frombits"], apart := false }
def FnAboveNextSaid : Prop := fnAboveNextRow.holds Try.pinned (OpenSpec.ofChange fnAboveNextSpec)

/-- ITS FALSE NEIGHBOUR: 'it returns false'. Refute it at one input. -/
def fnAboveNextWrong : ChangeSpec := { name := "fnAboveNext", fn := fun _ => fun
  | [d] => { results := [.lit (.bool false)], args := [d] }
  | _ => none }
def FnAboveNextWrongFalsely : Prop := fnAboveNextRow.holds Try.pinned (OpenSpec.ofChange fnAboveNextWrong)

/-- 'laws.FnWithin': WHATEVER THE INPUT: true; the input reads as it did. -/
def fnWithinSpec : ChangeSpec := { name := "fnWithin", fn := fun _ => fun
  | [d] => { results := [.lit (.bool true)], args := [d] }
  | _ => none }
def fnWithinRow : OpenClaim := { program := "ytpecdbgbiecdgaa", sum := "ab816c877bd95739e755ddda2e3804efc988cb1b76ab566e6f162e7f18efceb0", func := "loop.example/g00082/laws.FnWithin", spec := "fnWithin", inPlace := ["math.Float64frombits", "math.Float64bits"], apart := false }
def FnWithinSaid : Prop := fnWithinRow.holds Try.pinned (OpenSpec.ofChange fnWithinSpec)

/-- ITS FALSE NEIGHBOUR: 'it returns false'. Refute it at one input. -/
def fnWithinWrong : ChangeSpec := { name := "fnWithin", fn := fun _ => fun
  | [d] => { results := [.lit (.bool false)], args := [d] }
  | _ => none }
def FnWithinWrongFalsely : Prop := fnWithinRow.holds Try.pinned (OpenSpec.ofChange fnWithinWrong)

/-- 'laws.FnDecayed': WHATEVER THE INPUT: true; the input reads as it did. -/
def fnDecayedSpec : ChangeSpec := { name := "fnDecayed", fn := fun _ => fun
  | [d] => { results := [.lit (.bool true)], args := [d] }
  | _ => none }
def fnDecayedRow : OpenClaim := { program := "ytpecdbgbiecdgaa", sum := "ab816c877bd95739e755ddda2e3804efc988cb1b76ab566e6f162e7f18efceb0", func := "loop.example/g00082/laws.FnDecayed", spec := "fnDecayed", inPlace := ["math.Float64frombits", "math.Float64bits"], apart := false }
def FnDecayedSaid : Prop := fnDecayedRow.holds Try.pinned (OpenSpec.ofChange fnDecayedSpec)

/-- ITS FALSE NEIGHBOUR: 'it returns false'. Refute it at one input. -/
def fnDecayedWrong : ChangeSpec := { name := "fnDecayed", fn := fun _ => fun
  | [d] => { results := [.lit (.bool false)], args := [d] }
  | _ => none }
def FnDecayedWrongFalsely : Prop := fnDecayedRow.holds Try.pinned (OpenSpec.ofChange fnDecayedWrong)

/-- 'laws.FnSurer': WHATEVER THE INPUT: true; the input reads as it did. -/
def fnSurerSpec : ChangeSpec := { name := "fnSurer", fn := fun _ => fun
  | [d] => { results := [.lit (.bool true)], args := [d] }
  | _ => none }
def fnSurerRow : OpenClaim := { program := "ytpecdbgbiecdgaa", sum := "ab816c877bd95739e755ddda2e3804efc988cb1b76ab566e6f162e7f18efceb0", func := "loop.example/g00082/laws.FnSurer", spec := "fnSurer", inPlace := ["math.Float64frombits"], apart := false }
def FnSurerSaid : Prop := fnSurerRow.holds Try.pinned (OpenSpec.ofChange fnSurerSpec)

/-- ITS FALSE NEIGHBOUR: 'it returns false'. Refute it at one input. -/
def fnSurerWrong : ChangeSpec := { name := "fnSurer", fn := fun _ => fun
  | [d] => { results := [.lit (.bool false)], args := [d] }
  | _ => none }
def FnSurerWrongFalsely : Prop := fnSurerRow.holds Try.pinned (OpenSpec.ofChange fnSurerWrong)

/-- 'laws.FnTickAt': WHATEVER THE INPUT: true; the input reads as it did. -/
def fnTickAtSpec : ChangeSpec := { name := "fnTickAt", fn := fun _ => fun
  | [d] => { results := [.lit (.bool true)], args := [d] }
  | _ => none }
def fnTickAtRow : OpenClaim := { program := "ytpecdbgbiecdgaa", sum := "ab816c877bd95739e755ddda2e3804efc988cb1b76ab566e6f162e7f18efceb0", func := "loop.example/g00082/laws.FnTickAt", spec := "fnTickAt", inPlace := ["math.Float64bits", "math.Float64frombits"], unfollowed := true, recurses := true, apart := false }
def FnTickAtSaid : Prop := fnTickAtRow.holds Try.pinned (OpenSpec.ofChange fnTickAtSpec)

/-- ITS FALSE NEIGHBOUR: 'it returns false'. Refute it at one input. -/
def fnTickAtWrong : ChangeSpec := { name := "fnTickAt", fn := fun _ => fun
  | [d] => { results := [.lit (.bool false)], args := [d] }
  | _ => none }
def FnTickAtWrongFalsely : Prop := fnTickAtRow.holds Try.pinned (OpenSpec.ofChange fnTickAtWrong)

/-- 'laws.FnOverlapped': WHATEVER THE INPUT: true; the input reads as it did. -/
def fnOverlappedSpec : ChangeSpec := { name := "fnOverlapped", fn := fun _ => fun
  | [d] => { results := [.lit (.bool true)], args := [d] }
  | _ => none }
def fnOverlappedRow : OpenClaim := { program := "ytpecdbgbiecdgaa", sum := "ab816c877bd95739e755ddda2e3804efc988cb1b76ab566e6f162e7f18efceb0", func := "loop.example/g00082/laws.FnOverlapped", spec := "fnOverlapped", unfollowed := true, recurses := true, apart := false }
def FnOverlappedSaid : Prop := fnOverlappedRow.holds Try.pinned (OpenSpec.ofChange fnOverlappedSpec)

/-- ITS FALSE NEIGHBOUR: 'it returns false'. Refute it at one input. -/
def fnOverlappedWrong : ChangeSpec := { name := "fnOverlapped", fn := fun _ => fun
  | [d] => { results := [.lit (.bool false)], args := [d] }
  | _ => none }
def FnOverlappedWrongFalsely : Prop := fnOverlappedRow.holds Try.pinned (OpenSpec.ofChange fnOverlappedWrong)

/-- 'laws.FnMarked': WHATEVER THE INPUT: true; the input reads as it did. -/
def fnMarkedSpec : ChangeSpec := { name := "fnMarked", fn := fun _ => fun
  | [d] => { results := [.lit (.bool true)], args := [d] }
  | _ => none }
def fnMarkedRow : OpenClaim := { program := "ytpecdbgbiecdgaa", sum := "ab816c877bd95739e755ddda2e3804efc988cb1b76ab566e6f162e7f18efceb0", func := "loop.example/g00082/laws.FnMarked", spec := "fnMarked", apart := false }
def FnMarkedSaid : Prop := fnMarkedRow.holds Try.pinned (OpenSpec.ofChange fnMarkedSpec)

/-- ITS FALSE NEIGHBOUR: 'it returns false'. Refute it at one input. -/
def fnMarkedWrong : ChangeSpec := { name := "fnMarked", fn := fun _ => fun
  | [d] => { results := [.lit (.bool false)], args := [d] }
  | _ => none }
def FnMarkedWrongFalsely : Prop := fnMarkedRow.holds Try.pinned (OpenSpec.ofChange fnMarkedWrong)

/-- 'laws.FnBlended': WHATEVER THE INPUT: true; the input reads as it did. -/
def fnBlendedSpec : ChangeSpec := { name := "fnBlended", fn := fun _ => fun
  | [d] => { results := [.lit (.bool true)], args := [d] }
  | _ => none }
def fnBlendedRow : OpenClaim := { program := "ytpecdbgbiecdgaa", sum := "ab816c877bd95739e755ddda2e3804efc988cb1b76ab566e6f162e7f18efceb0", func := "loop.example/g00082/laws.FnBlended", spec := "fnBlended", inPlace := ["math.Float64frombits", "math.Float64bits"], apart := false }
def FnBlendedSaid : Prop := fnBlendedRow.holds Try.pinned (OpenSpec.ofChange fnBlendedSpec)

/-- ITS FALSE NEIGHBOUR: 'it returns false'. Refute it at one input. -/
def fnBlendedWrong : ChangeSpec := { name := "fnBlended", fn := fun _ => fun
  | [d] => { results := [.lit (.bool false)], args := [d] }
  | _ => none }
def FnBlendedWrongFalsely : Prop := fnBlendedRow.holds Try.pinned (OpenSpec.ofChange fnBlendedWrong)

/-- 'laws.FnRanked': WHATEVER THE INPUT: true; the input reads as it did. -/
def fnRankedSpec : ChangeSpec := { name := "fnRanked", fn := fun _ => fun
  | [d] => { results := [.lit (.bool true)], args := [d] }
  | _ => none }
def fnRankedRow : OpenClaim := { program := "ytpecdbgbiecdgaa", sum := "ab816c877bd95739e755ddda2e3804efc988cb1b76ab566e6f162e7f18efceb0", func := "loop.example/g00082/laws.FnRanked", spec := "fnRanked", inPlace := ["math.Float64bits"], unfollowed := true, recurses := true, apart := false }
def FnRankedSaid : Prop := fnRankedRow.holds Try.pinned (OpenSpec.ofChange fnRankedSpec)

/-- ITS FALSE NEIGHBOUR: 'it returns false'. Refute it at one input. -/
def fnRankedWrong : ChangeSpec := { name := "fnRanked", fn := fun _ => fun
  | [d] => { results := [.lit (.bool false)], args := [d] }
  | _ => none }
def FnRankedWrongFalsely : Prop := fnRankedRow.holds Try.pinned (OpenSpec.ofChange fnRankedWrong)

/- THE SECOND FORM. 'bulk': how many values and letters a reading holds, each counted each time it is reached (what is shared counts as often as it is met; a slice's spare places count too). A statement '..UptoSaid' is the law's where the arguments, and the package variables that the reading takes, are together of bulk at most 1048576: NARROWER than '..Said'. Prove '..Said' where nothing that the law and all that it calls make is longer than what came in: it says more and counts as full. Else prove '..UptoSaid'. A law counts once. -/
mutual
def uptoBulk {H : Type} : DataW H → Nat
  | .lit (.string bytes) => bytes.length + 1
  | .lit _ => 1
  | .nil => 1
  | .ptr d => uptoBulk d + 1
  | .slice elems spare => uptoBulkAll elems + uptoBulkAll spare + 1
  | .agg parts => uptoBulkAll parts + 1
  | .iface _ d => uptoBulk d + 1
  | .map entries => uptoBulkEntries entries + 1
  | .held _ => 1
def uptoBulkAll {H : Type} : List (DataW H) → Nat
  | [] => 0
  | d :: r => uptoBulk d + uptoBulkAll r
def uptoBulkEntries {H : Type} : List (Lit × DataW H) → Nat
  | [] => 0
  | x :: r => uptoBulkEntry x + uptoBulkEntries r
def uptoBulkEntry {H : Type} : Lit × DataW H → Nat
  | (.string bytes, d) => bytes.length + uptoBulk d + 1
  | (_, d) => uptoBulk d + 1
 end
def uptoSmall : (H : Type) → List (DataW H) → Bool := fun _ ds => decide (uptoBulkAll ds ≤ 1048576)
def OpenSpec.upto (s : _root_.Go.ChangeSpec) : _root_.Go.OpenSpec := { _root_.Go.OpenSpec.ofChange s with cond := some uptoSmall }

/-- 'laws.FnExactRanked', WHERE WHAT IT READS IS OF BULK AT MOST 1048576: true; the input reads as it did. -/
def fnExactRankedUptoRow : OpenClaim := { program := "ytpecdbgbiecdgaa", sum := "ab816c877bd95739e755ddda2e3804efc988cb1b76ab566e6f162e7f18efceb0", func := "loop.example/g00082/laws.FnExactRanked", spec := "fnExactRanked", inPlace := ["math.Float64bits"], unfollowed := true, recurses := true, apart := false, narrowed := true }
def FnExactRankedUptoSaid : Prop := fnExactRankedUptoRow.holds Try.pinned (OpenSpec.upto fnExactRankedSpec)

/-- 'laws.FnExactMedian', WHERE WHAT IT READS IS OF BULK AT MOST 1048576: true; the input reads as it did. -/
def fnExactMedianUptoRow : OpenClaim := { program := "ytpecdbgbiecdgaa", sum := "ab816c877bd95739e755ddda2e3804efc988cb1b76ab566e6f162e7f18efceb0", func := "loop.example/g00082/laws.FnExactMedian", spec := "fnExactMedian", inPlace := ["math.Float64frombits", "math.Float64bits"], unfollowed := true, recurses := true, apart := false, narrowed := true }
def FnExactMedianUptoSaid : Prop := fnExactMedianUptoRow.holds Try.pinned (OpenSpec.upto fnExactMedianSpec)

/-- 'laws.FnExactFitClock', WHERE WHAT IT READS IS OF BULK AT MOST 1048576: true; the input reads as it did. -/
def fnExactFitClockUptoRow : OpenClaim := { program := "ytpecdbgbiecdgaa", sum := "ab816c877bd95739e755ddda2e3804efc988cb1b76ab566e6f162e7f18efceb0", func := "loop.example/g00082/laws.FnExactFitClock", spec := "fnExactFitClock", inPlace := ["math.Float64bits", "math.Float64frombits"], apart := false, narrowed := true }
def FnExactFitClockUptoSaid : Prop := fnExactFitClockUptoRow.holds Try.pinned (OpenSpec.upto fnExactFitClockSpec)

/-- 'laws.FnAboveNext', WHERE WHAT IT READS IS OF BULK AT MOST 1048576: true; the input reads as it did. -/
def fnAboveNextUptoRow : OpenClaim := { program := "ytpecdbgbiecdgaa", sum := "ab816c877bd95739e755ddda2e3804efc988cb1b76ab566e6f162e7f18efceb0", func := "loop.example/g00082/laws.FnAboveNext", spec := "fnAboveNext", inPlace := ["math.Float64bits", "math.Float64frombits"], apart := false, narrowed := true }
def FnAboveNextUptoSaid : Prop := fnAboveNextUptoRow.holds Try.pinned (OpenSpec.upto fnAboveNextSpec)

/-- 'laws.FnWithin', WHERE WHAT IT READS IS OF BULK AT MOST 1048576: true; the input reads as it did. -/
def fnWithinUptoRow : OpenClaim := { program := "ytpecdbgbiecdgaa", sum := "ab816c877bd95739e755ddda2e3804efc988cb1b76ab566e6f162e7f18efceb0", func := "loop.example/g00082/laws.FnWithin", spec := "fnWithin", inPlace := ["math.Float64frombits", "math.Float64bits"], apart := false, narrowed := true }
def FnWithinUptoSaid : Prop := fnWithinUptoRow.holds Try.pinned (OpenSpec.upto fnWithinSpec)

/-- 'laws.FnDecayed', WHERE WHAT IT READS IS OF BULK AT MOST 1048576: true; the input reads as it did. -/
def fnDecayedUptoRow : OpenClaim := { program := "ytpecdbgbiecdgaa", sum := "ab816c877bd95739e755ddda2e3804efc988cb1b76ab566e6f162e7f18efceb0", func := "loop.example/g00082/laws.FnDecayed", spec := "fnDecayed", inPlace := ["math.Float64frombits", "math.Float64bits"], apart := false, narrowed := true }
def FnDecayedUptoSaid : Prop := fnDecayedUptoRow.holds Try.pinned (OpenSpec.upto fnDecayedSpec)

/-- 'laws.FnSurer', WHERE WHAT IT READS IS OF BULK AT MOST 1048576: true; the input reads as it did. -/
def fnSurerUptoRow : OpenClaim := { program := "ytpecdbgbiecdgaa", sum := "ab816c877bd95739e755ddda2e3804efc988cb1b76ab566e6f162e7f18efceb0", func := "loop.example/g00082/laws.FnSurer", spec := "fnSurer", inPlace := ["math.Float64frombits"], apart := false, narrowed := true }
def FnSurerUptoSaid : Prop := fnSurerUptoRow.holds Try.pinned (OpenSpec.upto fnSurerSpec)

/-- 'laws.FnTickAt', WHERE WHAT IT READS IS OF BULK AT MOST 1048576: true; the input reads as it did. -/
def fnTickAtUptoRow : OpenClaim := { program := "ytpecdbgbiecdgaa", sum := "ab816c877bd95739e755ddda2e3804efc988cb1b76ab566e6f162e7f18efceb0", func := "loop.example/g00082/laws.FnTickAt", spec := "fnTickAt", inPlace := ["math.Float64bits", "math.Float64frombits"], unfollowed := true, recurses := true, apart := false, narrowed := true }
def FnTickAtUptoSaid : Prop := fnTickAtUptoRow.holds Try.pinned (OpenSpec.upto fnTickAtSpec)

/-- 'laws.FnOverlapped', WHERE WHAT IT READS IS OF BULK AT MOST 1048576: true; the input reads as it did. -/
def fnOverlappedUptoRow : OpenClaim := { program := "ytpecdbgbiecdgaa", sum := "ab816c877bd95739e755ddda2e3804efc988cb1b76ab566e6f162e7f18efceb0", func := "loop.example/g00082/laws.FnOverlapped", spec := "fnOverlapped", unfollowed := true, recurses := true, apart := false, narrowed := true }
def FnOverlappedUptoSaid : Prop := fnOverlappedUptoRow.holds Try.pinned (OpenSpec.upto fnOverlappedSpec)

/-- 'laws.FnMarked', WHERE WHAT IT READS IS OF BULK AT MOST 1048576: true; the input reads as it did. -/
def fnMarkedUptoRow : OpenClaim := { program := "ytpecdbgbiecdgaa", sum := "ab816c877bd95739e755ddda2e3804efc988cb1b76ab566e6f162e7f18efceb0", func := "loop.example/g00082/laws.FnMarked", spec := "fnMarked", apart := false, narrowed := true }
def FnMarkedUptoSaid : Prop := fnMarkedUptoRow.holds Try.pinned (OpenSpec.upto fnMarkedSpec)

/-- 'laws.FnBlended', WHERE WHAT IT READS IS OF BULK AT MOST 1048576: true; the input reads as it did. -/
def fnBlendedUptoRow : OpenClaim := { program := "ytpecdbgbiecdgaa", sum := "ab816c877bd95739e755ddda2e3804efc988cb1b76ab566e6f162e7f18efceb0", func := "loop.example/g00082/laws.FnBlended", spec := "fnBlended", inPlace := ["math.Float64frombits", "math.Float64bits"], apart := false, narrowed := true }
def FnBlendedUptoSaid : Prop := fnBlendedUptoRow.holds Try.pinned (OpenSpec.upto fnBlendedSpec)

/-- 'laws.FnRanked', WHERE WHAT IT READS IS OF BULK AT MOST 1048576: true; the input reads as it did. -/
def fnRankedUptoRow : OpenClaim := { program := "ytpecdbgbiecdgaa", sum := "ab816c877bd95739e755ddda2e3804efc988cb1b76ab566e6f162e7f18efceb0", func := "loop.example/g00082/laws.FnRanked", spec := "fnRanked", inPlace := ["math.Float64bits"], unfollowed := true, recurses := true, apart := false, narrowed := true }
def FnRankedUptoSaid : Prop := fnRankedUptoRow.holds Try.pinned (OpenSpec.upto fnRankedSpec)

end Rows
end Go.Proofs.Ytpecdbgbiecdgaa
