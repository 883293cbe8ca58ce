/- What Extend answers: plain facts, no condition. -/
import Derived.Test.YtgmgffbfpbkfmaaGreatDoorRegPlain
namespace Go.Proofs.YtgmgffbfpbkfmaaGreatDoor
open Go.RowKit

/-- The new register at a place. -/
def hashOf (ps : List (List UInt8)) (at' : Nat) (m : List UInt8) : List (List UInt8) := [ps.getD at' [], m]

/-- What Extend answers. -/
def extOut (ps : List (List UInt8)) (at' : Int) (m : List UInt8) : List (List UInt8) × Bool :=
  if regB ps = true ∧ 0 ≤ at' ∧ at' ≤ 7 ∧ madeB 4 (hashOf ps at'.toNat m) = true then (ps.set at'.toNat (tmWith 4 (hashOf ps at'.toNat m)), true) else ([], false)

theorem ext_few (ps : List (List UInt8)) (at' : Int) (m : List UInt8) : (extOut ps at' m).1.length ≤ 8 := by
  unfold extOut
  split
  · rename_i h
    have := ((regB_iff ps).1 h.1).1
    show (ps.set _ _).length ≤ 8
    rw [List.length_set]
    omega
  · exact Nat.zero_le _

/-- What is made of a text that is no term is none. -/
theorem made_none {x m : List UInt8} (h : (nodeOf (bytesOf m)).1 = 0) : madeB 4 [x, m] = false := by
  rw [Bool.eq_false_iff]
  intro hb
  unfold madeB at hb
  have h1 := (of_decide_eq_true hb).2.2
  exact ((made_parts (k := 4) (by omega) (by omega) h1).2.2 m (by simp)).1 h
end Go.Proofs.YtgmgffbfpbkfmaaGreatDoor
