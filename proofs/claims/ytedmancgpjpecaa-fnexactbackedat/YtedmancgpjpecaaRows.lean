/-
  No cell of these rows narrows 'for every input' (looked for: loops, veiled, ifaces, maps, wideKeys, modest, calm, conditions, laid).
  DERIVED. THE GIVEN ROWS OF THIS SEAT. 7 by the template 'for every input the law returns true; each argument reads behind the call as it read before'; 0 by the template 'total and deterministic' (their statements: YtedmancgpjpecaaTotals.lean).
  GIVEN WITH THE SEED: the statements are not yours to turn. If you find one false, say at which input.
  Laid BY PROGRAM, IN A SANDBOX (cutbox-rows.mjs): the forced cells as the released guide's own fill.sh prints them over the translation c7cdca038c9f254e… (all of the seat's roots in one cut). By AI agents, Wed Nov 11 2026. No macro, syntax, notation, axiom, sorry.
-/
import Derived.Test.YtedmancgpjpecaaChecked
import GoSem.Claim
import GoSem.ClaimJoined
import GoSem.ClaimMapViews
import Derived.JoinedTies
import Derived.KernelRfl
namespace Go.Proofs.Ytedmancgpjpecaa
/- THE CELL 'sum', in the pinned program and in every row, IS THE sha256 OF THE DUMP (.gsa) THAT YtedmancgpjpecaaProg.lean LOADS. Nothing in Lean hashes anything: it is a label: what it is worth is what the hold of that sum in a sandbox is worth. -/
noncomputable def Try.pinned : Pinned := { name := "ytedmancgpjpecaa", sum := "c7cdca038c9f254eb80fbc3e6ca6489a4fab39d010e06e51dfde20dc2d4ce179", checked := Try.checked }
namespace Rows
def none {H : Type} : Left H := { results := [], args := [] }

/-- 'laws.FnExactTwiceAt': WHATEVER THE INPUT: true; the input reads as it did. -/
def fnExactTwiceAtSpec : ChangeSpec := { name := "fnExactTwiceAt", fn := fun _ => fun
  | [d] => { results := [.lit (.bool true)], args := [d] }
  | _ => none }
def fnExactTwiceAtRow : OpenClaim := { program := "ytedmancgpjpecaa", sum := "c7cdca038c9f254eb80fbc3e6ca6489a4fab39d010e06e51dfde20dc2d4ce179", func := "loop.example/g00082/laws.FnExactTwiceAt", spec := "fnExactTwiceAt", unfollowed := true, recurses := true, plainKeys := false, apart := false }
def FnExactTwiceAtSaid : Prop := fnExactTwiceAtRow.holds Try.pinned (OpenSpec.ofChange fnExactTwiceAtSpec)

/-- ITS FALSE NEIGHBOUR: 'it returns false'. Refute it at one input. -/
def fnExactTwiceAtWrong : ChangeSpec := { name := "fnExactTwiceAt", fn := fun _ => fun
  | [d] => { results := [.lit (.bool false)], args := [d] }
  | _ => none }
def FnExactTwiceAtWrongFalsely : Prop := fnExactTwiceAtRow.holds Try.pinned (OpenSpec.ofChange fnExactTwiceAtWrong)

/-- 'laws.FnExactBackedAt': WHATEVER THE INPUT: true; the input reads as it did. -/
def fnExactBackedAtSpec : ChangeSpec := { name := "fnExactBackedAt", fn := fun _ => fun
  | [d1, d2] => { results := [.lit (.bool true)], args := [d1, d2] }
  | _ => none }
def fnExactBackedAtRow : OpenClaim := { program := "ytedmancgpjpecaa", sum := "c7cdca038c9f254eb80fbc3e6ca6489a4fab39d010e06e51dfde20dc2d4ce179", func := "loop.example/g00082/laws.FnExactBackedAt", spec := "fnExactBackedAt", unfollowed := true, recurses := true, plainKeys := false, apart := false }
def FnExactBackedAtSaid : Prop := fnExactBackedAtRow.holds Try.pinned (OpenSpec.ofChange fnExactBackedAtSpec)

/-- ITS FALSE NEIGHBOUR: 'it returns false'. Refute it at one input. -/
def fnExactBackedAtWrong : ChangeSpec := { name := "fnExactBackedAt", fn := fun _ => fun
  | [d1, d2] => { results := [.lit (.bool false)], args := [d1, d2] }
  | _ => none }
def FnExactBackedAtWrongFalsely : Prop := fnExactBackedAtRow.holds Try.pinned (OpenSpec.ofChange fnExactBackedAtWrong)

/-- 'laws.FnExactRisingAt': WHATEVER THE INPUT: true; the input reads as it did. -/
def fnExactRisingAtSpec : ChangeSpec := { name := "fnExactRisingAt", fn := fun _ => fun
  | [d] => { results := [.lit (.bool true)], args := [d] }
  | _ => none }
def fnExactRisingAtRow : OpenClaim := { program := "ytedmancgpjpecaa", sum := "c7cdca038c9f254eb80fbc3e6ca6489a4fab39d010e06e51dfde20dc2d4ce179", func := "loop.example/g00082/laws.FnExactRisingAt", spec := "fnExactRisingAt", unfollowed := true, recurses := true, plainKeys := false, apart := false }
def FnExactRisingAtSaid : Prop := fnExactRisingAtRow.holds Try.pinned (OpenSpec.ofChange fnExactRisingAtSpec)

/-- ITS FALSE NEIGHBOUR: 'it returns false'. Refute it at one input. -/
def fnExactRisingAtWrong : ChangeSpec := { name := "fnExactRisingAt", fn := fun _ => fun
  | [d] => { results := [.lit (.bool false)], args := [d] }
  | _ => none }
def FnExactRisingAtWrongFalsely : Prop := fnExactRisingAtRow.holds Try.pinned (OpenSpec.ofChange fnExactRisingAtWrong)

/-- 'laws.FnExactAcceptedAt': WHATEVER THE INPUT: true; the input reads as it did. -/
def fnExactAcceptedAtSpec : ChangeSpec := { name := "fnExactAcceptedAt", fn := fun _ => fun
  | [d] => { results := [.lit (.bool true)], args := [d] }
  | _ => none }
def fnExactAcceptedAtRow : OpenClaim := { program := "ytedmancgpjpecaa", sum := "c7cdca038c9f254eb80fbc3e6ca6489a4fab39d010e06e51dfde20dc2d4ce179", func := "loop.example/g00082/laws.FnExactAcceptedAt", spec := "fnExactAcceptedAt", unfollowed := true, recurses := true, plainKeys := false, apart := false }
def FnExactAcceptedAtSaid : Prop := fnExactAcceptedAtRow.holds Try.pinned (OpenSpec.ofChange fnExactAcceptedAtSpec)

/-- ITS FALSE NEIGHBOUR: 'it returns false'. Refute it at one input. -/
def fnExactAcceptedAtWrong : ChangeSpec := { name := "fnExactAcceptedAt", fn := fun _ => fun
  | [d] => { results := [.lit (.bool false)], args := [d] }
  | _ => none }
def FnExactAcceptedAtWrongFalsely : Prop := fnExactAcceptedAtRow.holds Try.pinned (OpenSpec.ofChange fnExactAcceptedAtWrong)

/-- 'laws.FnExactAskedAt': WHATEVER THE INPUT: true; the input reads as it did. -/
def fnExactAskedAtSpec : ChangeSpec := { name := "fnExactAskedAt", fn := fun _ => fun
  | [d] => { results := [.lit (.bool true)], args := [d] }
  | _ => none }
def fnExactAskedAtRow : OpenClaim := { program := "ytedmancgpjpecaa", sum := "c7cdca038c9f254eb80fbc3e6ca6489a4fab39d010e06e51dfde20dc2d4ce179", func := "loop.example/g00082/laws.FnExactAskedAt", spec := "fnExactAskedAt", unfollowed := true, recurses := true, plainKeys := false, apart := false }
def FnExactAskedAtSaid : Prop := fnExactAskedAtRow.holds Try.pinned (OpenSpec.ofChange fnExactAskedAtSpec)

/-- ITS FALSE NEIGHBOUR: 'it returns false'. Refute it at one input. -/
def fnExactAskedAtWrong : ChangeSpec := { name := "fnExactAskedAt", fn := fun _ => fun
  | [d] => { results := [.lit (.bool false)], args := [d] }
  | _ => none }
def FnExactAskedAtWrongFalsely : Prop := fnExactAskedAtRow.holds Try.pinned (OpenSpec.ofChange fnExactAskedAtWrong)

/-- 'laws.FnExactCounts': WHATEVER THE INPUT: true; the input reads as it did. -/
def fnExactCountsSpec : ChangeSpec := { name := "fnExactCounts", fn := fun _ => fun
  | [d] => { results := [.lit (.bool true)], args := [d] }
  | _ => none }
def fnExactCountsRow : OpenClaim := { program := "ytedmancgpjpecaa", sum := "c7cdca038c9f254eb80fbc3e6ca6489a4fab39d010e06e51dfde20dc2d4ce179", func := "loop.example/g00082/laws.FnExactCounts", spec := "fnExactCounts", plainKeys := false, apart := false }
def FnExactCountsSaid : Prop := fnExactCountsRow.holds Try.pinned (OpenSpec.ofChange fnExactCountsSpec)

/-- ITS FALSE NEIGHBOUR: 'it returns false'. Refute it at one input. -/
def fnExactCountsWrong : ChangeSpec := { name := "fnExactCounts", fn := fun _ => fun
  | [d] => { results := [.lit (.bool false)], args := [d] }
  | _ => none }
def FnExactCountsWrongFalsely : Prop := fnExactCountsRow.holds Try.pinned (OpenSpec.ofChange fnExactCountsWrong)

/-- 'laws.FnExactStory': WHATEVER THE INPUT: true; the input reads as it did. -/
def fnExactStorySpec : ChangeSpec := { name := "fnExactStory", fn := fun _ => fun
  | [d1, d2] => { results := [.lit (.bool true)], args := [d1, d2] }
  | _ => none }
def fnExactStoryRow : OpenClaim := { program := "ytedmancgpjpecaa", sum := "c7cdca038c9f254eb80fbc3e6ca6489a4fab39d010e06e51dfde20dc2d4ce179", func := "loop.example/g00082/laws.FnExactStory", spec := "fnExactStory", plainKeys := false, apart := false }
def FnExactStorySaid : Prop := fnExactStoryRow.holds Try.pinned (OpenSpec.ofChange fnExactStorySpec)

/-- ITS FALSE NEIGHBOUR: 'it returns false'. Refute it at one input. -/
def fnExactStoryWrong : ChangeSpec := { name := "fnExactStory", fn := fun _ => fun
  | [d1, d2] => { results := [.lit (.bool false)], args := [d1, d2] }
  | _ => none }
def FnExactStoryWrongFalsely : Prop := fnExactStoryRow.holds Try.pinned (OpenSpec.ofChange fnExactStoryWrong)

/- THE SECOND FORM. 'bulk': how many values and letters a reading holds, each counted each time it is reached (what is shared counts as often as it is met; a slice's spare places count too). A statement '..UptoSaid' is the law's where the arguments, and the package variables that the reading takes, are together of bulk at most 1048576: NARROWER than '..Said'. Prove '..Said' where nothing that the law and all that it calls make is longer than what came in: it says more and counts as full. Else prove '..UptoSaid'. A law counts once. -/
mutual
def uptoBulk {H : Type} : DataW H → Nat
  | .lit (.string bytes) => bytes.length + 1
  | .lit _ => 1
  | .nil => 1
  | .ptr d => uptoBulk d + 1
  | .slice elems spare => uptoBulkAll elems + uptoBulkAll spare + 1
  | .agg parts => uptoBulkAll parts + 1
  | .iface _ d => uptoBulk d + 1
  | .map entries => uptoBulkEntries entries + 1
  | .held _ => 1
def uptoBulkAll {H : Type} : List (DataW H) → Nat
  | [] => 0
  | d :: r => uptoBulk d + uptoBulkAll r
def uptoBulkEntries {H : Type} : List (Lit × DataW H) → Nat
  | [] => 0
  | x :: r => uptoBulkEntry x + uptoBulkEntries r
def uptoBulkEntry {H : Type} : Lit × DataW H → Nat
  | (.string bytes, d) => bytes.length + uptoBulk d + 1
  | (_, d) => uptoBulk d + 1
 end
def uptoSmall : (H : Type) → List (DataW H) → Bool := fun _ ds => decide (uptoBulkAll ds ≤ 1048576)
def OpenSpec.upto (s : _root_.Go.ChangeSpec) : _root_.Go.OpenSpec := { _root_.Go.OpenSpec.ofChange s with cond := some uptoSmall }

/-- 'laws.FnExactTwiceAt', WHERE WHAT IT READS IS OF BULK AT MOST 1048576: true; the input reads as it did. -/
def fnExactTwiceAtUptoRow : OpenClaim := { program := "ytedmancgpjpecaa", sum := "c7cdca038c9f254eb80fbc3e6ca6489a4fab39d010e06e51dfde20dc2d4ce179", func := "loop.example/g00082/laws.FnExactTwiceAt", spec := "fnExactTwiceAt", unfollowed := true, recurses := true, plainKeys := false, apart := false, narrowed := true }
def FnExactTwiceAtUptoSaid : Prop := fnExactTwiceAtUptoRow.holds Try.pinned (OpenSpec.upto fnExactTwiceAtSpec)

/-- 'laws.FnExactBackedAt', WHERE WHAT IT READS IS OF BULK AT MOST 1048576: true; the input reads as it did. -/
def fnExactBackedAtUptoRow : OpenClaim := { program := "ytedmancgpjpecaa", sum := "c7cdca038c9f254eb80fbc3e6ca6489a4fab39d010e06e51dfde20dc2d4ce179", func := "loop.example/g00082/laws.FnExactBackedAt", spec := "fnExactBackedAt", unfollowed := true, recurses := true, plainKeys := false, apart := false, narrowed := true }
def FnExactBackedAtUptoSaid : Prop := fnExactBackedAtUptoRow.holds Try.pinned (OpenSpec.upto fnExactBackedAtSpec)

/-- 'laws.FnExactRisingAt', WHERE WHAT IT READS IS OF BULK AT MOST 1048576: true; the input reads as it did. -/
def fnExactRisingAtUptoRow : OpenClaim := { program := "ytedmancgpjpecaa", sum := "c7cdca038c9f254eb80fbc3e6ca6489a4fab39d010e06e51dfde20dc2d4ce179", func := "loop.example/g00082/laws.FnExactRisingAt", spec := "fnExactRisingAt", unfollowed := true, recurses := true, plainKeys := false, apart := false, narrowed := true }
def FnExactRisingAtUptoSaid : Prop := fnExactRisingAtUptoRow.holds Try.pinned (OpenSpec.upto fnExactRisingAtSpec)

/-- 'laws.FnExactAcceptedAt', WHERE WHAT IT READS IS OF BULK AT MOST 1048576: true; the input reads as it did. -/
def fnExactAcceptedAtUptoRow : OpenClaim := { program := "ytedmancgpjpecaa", sum := "c7cdca038c9f254eb80fbc3e6ca6489a4fab39d010e06e51dfde20dc2d4ce179", func := "loop.example/g00082/laws.FnExactAcceptedAt", spec := "fnExactAcceptedAt", unfollowed := true, recurses := true, plainKeys := false, apart := false, narrowed := true }
def FnExactAcceptedAtUptoSaid : Prop := fnExactAcceptedAtUptoRow.holds Try.pinned (OpenSpec.upto fnExactAcceptedAtSpec)

/-- 'laws.FnExactAskedAt', WHERE WHAT IT READS IS OF BULK AT MOST 1048576: true; the input reads as it did. -/
def fnExactAskedAtUptoRow : OpenClaim := { program := "ytedmancgpjpecaa", sum := "c7cdca038c9f254eb80fbc3e6ca6489a4fab39d010e06e51dfde20dc2d4ce179", func := "loop.example/g00082/laws.FnExactAskedAt", spec := "fnExactAskedAt", unfollowed := true, recurses := true, plainKeys := false, apart := false, narrowed := true }
def FnExactAskedAtUptoSaid : Prop := fnExactAskedAtUptoRow.holds Try.pinned (OpenSpec.upto fnExactAskedAtSpec)

/-- 'laws.FnExactCounts', WHERE WHAT IT READS IS OF BULK AT MOST 1048576: true; the input reads as it did. -/
def fnExactCountsUptoRow : OpenClaim := { program := "ytedmancgpjpecaa", sum := "c7cdca038c9f254eb80fbc3e6ca6489a4fab39d010e06e51dfde20dc2d4ce179", func := "loop.example/g00082/laws.FnExactCounts", spec := "fnExactCounts", plainKeys := false, apart := false, narrowed := true }
def FnExactCountsUptoSaid : Prop := fnExactCountsUptoRow.holds Try.pinned (OpenSpec.upto fnExactCountsSpec)

/-- 'laws.FnExactStory', WHERE WHAT IT READS IS OF BULK AT MOST 1048576: true; the input reads as it did. -/
def fnExactStoryUptoRow : OpenClaim := { program := "ytedmancgpjpecaa", sum := "c7cdca038c9f254eb80fbc3e6ca6489a4fab39d010e06e51dfde20dc2d4ce179", func := "loop.example/g00082/laws.FnExactStory", spec := "fnExactStory", plainKeys := false, apart := false, narrowed := true }
def FnExactStoryUptoSaid : Prop := fnExactStoryUptoRow.holds Try.pinned (OpenSpec.upto fnExactStorySpec)

end Rows
end Go.Proofs.Ytedmancgpjpecaa
