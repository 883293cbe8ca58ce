/- The registers that a mask chooses: plain facts, no condition. -/
import Derived.Test.YtgmgffbfpbkfmaaGreatDoorRegPlain
namespace Go.Proofs.YtgmgffbfpbkfmaaGreatDoor
open Go.RowKit

/-- The first i of eight that a mask chooses. -/
def chosenTo (m : Nat) (ps : List (List UInt8)) : Nat → List (List UInt8)
  | 0 => []
  | i + 1 => chosenTo m ps i ++ if m.testBit i then [ps.getD i []] else []

theorem chosen_yes (m : Nat) (ps : List (List UInt8)) (i : Nat) (h : m.testBit i = true) : chosenTo m ps (i + 1) = chosenTo m ps i ++ [ps.getD i []] := by
  show chosenTo m ps i ++ _ = _
  rw [h]; rfl

theorem chosen_no (m : Nat) (ps : List (List UInt8)) (i : Nat) (h : m.testBit i = false) : chosenTo m ps (i + 1) = chosenTo m ps i := by
  show chosenTo m ps i ++ _ = _
  rw [h]; simp

theorem chosen_few (m : Nat) (ps : List (List UInt8)) (i : Nat) : (chosenTo m ps i).length ≤ i := by
  induction i with
  | zero => exact Nat.le_refl _
  | succ i ih =>
    show (chosenTo m ps i ++ _).length ≤ _
    rw [List.length_append]
    split <;> simp <;> omega

theorem bit_shr (m i : Nat) (hm : m ≤ 255) (hi : i < 8) : (bits BinOp.and IntKind.i64 ((m : Int) / 2 ^ i) 1 == 1) = m.testBit i := by
  have h : ∀ m : Fin 256, ∀ i : Fin 8, (bits BinOp.and IntKind.i64 (((m : Nat) : Int) / 2 ^ (i : Nat)) 1 == 1) = (m : Nat).testBit i := by decide +kernel
  exact h ⟨m, by omega⟩ ⟨i, hi⟩

theorem bit_and (m i : Nat) (hm : m ≤ 255) (hi : i < 8) : (bits BinOp.and IntKind.i64 (m : Int) (wrap64 (2 ^ i)) != 0) = m.testBit i := by
  have h : ∀ m : Fin 256, ∀ i : Fin 8, (bits BinOp.and IntKind.i64 ((m : Nat) : Int) (wrap64 (2 ^ (i : Nat))) != 0) = (m : Nat).testBit i := by decide +kernel
  exact h ⟨m, by omega⟩ ⟨i, hi⟩

/-- What Shown answers. -/
def shownOut (ps : List (List UInt8)) (mask : Int) : List (List UInt8) × Bool :=
  if regB ps = true ∧ 1 ≤ mask ∧ mask ≤ 255 then (chosenTo mask.toNat ps 8, true) else ([], false)

theorem shown_few (ps : List (List UInt8)) (mask : Int) : (shownOut ps mask).1.length ≤ 8 := by
  unfold shownOut
  split
  · exact chosen_few _ _ _
  · exact Nat.zero_le _
end Go.Proofs.YtgmgffbfpbkfmaaGreatDoor
