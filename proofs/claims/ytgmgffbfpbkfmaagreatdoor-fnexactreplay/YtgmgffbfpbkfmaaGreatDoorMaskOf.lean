/- Is a number a mask, the program's. -/
import Derived.Test.YtgmgffbfpbkfmaaGreatDoorImplRead
namespace Go.Proofs.YtgmgffbfpbkfmaaGreatDoor
open Go.RowKit
open Go.Lib (hid)

theorem isMask_calls (mask : Int) (w : World) : Calls Tryz.prog 190 #[.int .i64 mask] w fun e w' => e = .returned (.bool (decide (1 ≤ mask ∧ mask ≤ 255))) ∧ w' = w := by
  by_cases h0 : 1 ≤ mask
  · by_cases h1 : mask ≤ 255
    · go_enter Tryz.func190, Tryz.ntmps190
      go_wp2
      go_ret
      exact ⟨by simp [h0, h1], rfl⟩
    · go_enter Tryz.func190, Tryz.ntmps190
      go_wp2
      go_ret
      exact ⟨by simp [h1], rfl⟩
  · go_enter Tryz.func190, Tryz.ntmps190
    go_wp2
    go_ret
    exact ⟨by simp; omega, rfl⟩
end Go.Proofs.YtgmgffbfpbkfmaaGreatDoor
