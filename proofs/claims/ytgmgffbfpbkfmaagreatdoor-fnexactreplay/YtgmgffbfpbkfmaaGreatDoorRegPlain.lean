/- Registers: what are registers, and the ones that a mask chooses; plain facts, no condition. -/
import Derived.Test.YtgmgffbfpbkfmaaGreatDoorMakePlain
namespace Go.Proofs.YtgmgffbfpbkfmaaGreatDoor
open Go.RowKit

/-- Are these registers? -/
def regB (ps : List (List UInt8)) : Bool := decide (ps.length = 8) && ps.all fun p => (nodeOf (bytesOf p)).1 != 0

theorem regB_iff (ps : List (List UInt8)) : regB ps = true ↔ ps.length = 8 ∧ ∀ p ∈ ps, (nodeOf (bytesOf p)).1 ≠ 0 := by
  simp [regB]

theorem regB_len {ps : List (List UInt8)} (h : ps.length ≠ 8) : regB ps = false := by simp [regB, h]

theorem regB_bad {ps : List (List UInt8)} {p : List UInt8} (hp : p ∈ ps) (h : (nodeOf (bytesOf p)).1 = 0) : regB ps = false := by
  rw [Bool.eq_false_iff]
  intro hb
  exact ((regB_iff ps).1 hb).2 p hp h

theorem eight {α : Type} {l : List α} (h : l.length = 8) : ∃ a b c d e f g k, l = [a, b, c, d, e, f, g, k] := by
  match l, h with
  | [a, b, c, d, e, f, g, k], _ => exact ⟨a, b, c, d, e, f, g, k, rfl⟩
end Go.Proofs.YtgmgffbfpbkfmaaGreatDoor
