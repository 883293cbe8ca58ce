/- Laid together: InAny, MaskOf, OnesBoth. -/
import Derived.Test.YtponjghppnpnhaaDoorImplRead
import Derived.Test.YtponjghppnpnhaaDoorProg
import Derived.WalkKit
import Derived.WalkSpells
import Derived.WalkLawsBesides
import Derived.Deep.QuietTactic
import Derived.BigQuiet
import Derived.Lib.Hide
import Derived.Lib.Strings
import Derived.RegionTactic
import Derived.RowKit

namespace Go.Proofs.YtponjghppnpnhaaDoor
open Go.RowKit
open Go.Lib (hid)

theorem in_any (n a b : Int) (w : World) :
    Calls Tryd.prog 109 #[.int .i64 n, .int .i64 a, .int .i64 b] w fun e w' => e = .returned (.bool (decide (a ≤ n ∧ n ≤ b))) ∧ w' = w := by
  by_cases h0 : a ≤ n
  · by_cases h1 : n ≤ b
    · go_enter Tryd.func109, Tryd.ntmps109
      go_wp2
      go_ret
      exact ⟨by simp [h0, h1], rfl⟩
    · go_enter Tryd.func109, Tryd.ntmps109
      go_wp2
      go_ret
      exact ⟨by simp [h1], rfl⟩
  · go_enter Tryd.func109, Tryd.ntmps109
    go_wp2
    go_ret
    exact ⟨by simp; omega, rfl⟩
end Go.Proofs.YtponjghppnpnhaaDoor

namespace Go.Proofs.YtponjghppnpnhaaDoor
open Go.RowKit
open Go.Lib (hid)

theorem isMask_calls (mask : Int) (w : World) : Calls Tryd.prog 113 #[.int .i64 mask] w fun e w' => e = .returned (.bool (decide (1 ≤ mask ∧ mask ≤ 255))) ∧ w' = w := by
  by_cases h0 : 1 ≤ mask
  · by_cases h1 : mask ≤ 255
    · go_enter Tryd.func113, Tryd.ntmps113
      go_wp2
      go_ret
      exact ⟨by simp [h0, h1], rfl⟩
    · go_enter Tryd.func113, Tryd.ntmps113
      go_wp2
      go_ret
      exact ⟨by simp [h1], rfl⟩
  · go_enter Tryd.func113, Tryd.ntmps113
    go_wp2
    go_ret
    exact ⟨by simp; omega, rfl⟩
end Go.Proofs.YtponjghppnpnhaaDoor

namespace Go.Proofs.YtponjghppnpnhaaDoor
open Go.RowKit
open Go.Lib (hid)

/-- How many registers a mask chooses. -/
def popN (m : Nat) : Nat := ((List.range 8).filter fun j => m.testBit j).length

theorem ones_calls (m : Nat) (hm : m ≤ 255) (w : World) : Calls Tryd.prog 115 #[.int .u64 (m : Int)] w fun e w' => e = .returned (.int .i64 (popN m : Nat)) ∧ w' = w := by
  go_enter Tryd.func115, Tryd.ntmps115
  go_wp2
  go_ret
  refine ⟨congrArg (fun x : Int => Ending.returned (.int .i64 x)) ?_, rfl⟩
  obtain ⟨k, rfl⟩ : ∃ k : Fin 256, m = k.val := ⟨⟨m, by omega⟩, rfl⟩
  clear hm w
  revert k
  decide +kernel
end Go.Proofs.YtponjghppnpnhaaDoor
