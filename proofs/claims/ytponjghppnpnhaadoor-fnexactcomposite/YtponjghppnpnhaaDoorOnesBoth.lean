/- How many bits of a mask stand: the library's count, and the plain one. -/
import Derived.Test.YtponjghppnpnhaaDoorProg
import Derived.WalkKit
import Derived.WalkSpells
import Derived.WalkLawsBesides
import Derived.Deep.QuietTactic
import Derived.BigQuiet
import Derived.Lib.Hide
import Derived.Lib.Strings
import Derived.RegionTactic
import Derived.RowKit
namespace Go.Proofs.YtponjghppnpnhaaDoor
open Go.RowKit
open Go.Lib (hid)

/-- How many registers a mask chooses. -/
def popN (m : Nat) : Nat := ((List.range 8).filter fun j => m.testBit j).length

theorem ones_calls (m : Nat) (hm : m ≤ 255) (w : World) : Calls Tryd.prog 115 #[.int .u64 (m : Int)] w fun e w' => e = .returned (.int .i64 (popN m : Nat)) ∧ w' = w := by
  go_enter Tryd.func115, Tryd.ntmps115
  go_wp2
  go_ret
  refine ⟨congrArg (fun x : Int => Ending.returned (.int .i64 x)) ?_, rfl⟩
  obtain ⟨k, rfl⟩ : ∃ k : Fin 256, m = k.val := ⟨⟨m, by omega⟩, rfl⟩
  clear hm w
  revert k
  decide +kernel
end Go.Proofs.YtponjghppnpnhaaDoor
