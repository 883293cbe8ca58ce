/- MeasureOf, the specification's and the program's: both answer the same, whatever they are given. -/
import Derived.Test.YtjaaplcgphlccaaGreatDoorInAny
import Derived.Test.YtjaaplcgphlccaaGreatDoorMakeImpl
import Derived.Test.YtjaaplcgphlccaaGreatDoorNumOne
import Derived.Test.YtjaaplcgphlccaaGreatDoorTextLit
namespace Go.Proofs.YtjaaplcgphlccaaGreatDoor
open Go.RowKit
open Go.Lib (hid)

theorem kind_one {d : Nat} {x : List UInt8} : (kindS d x).1 = 1 ↔ nameB x = true := by
  have hb : ∀ f, (brk f x).1 ≠ 1 := by
    intro f h
    have := brk_some (f := f) (l := x) (k := (brk f x).1) (ps := (brk f x).2) rfl (by omega)
    omega
  constructor
  · intro h
    cases d with
    | zero =>
      unfold kindS at h
      split at h
      · assumption
      · split at h <;> cases h
    | succ d =>
      unfold kindS at h
      split at h
      · assumption
      · split at h
        · cases h
        · exact absurd h (hb _)
  · intro h
    cases d with
    | zero => simp [kindS, h]
    | succ d => simp [kindS, h]

theorem name_size {x : ByteArray} (h : nameB x.data.toList = true) : x.size ≤ 12 := by
  have hsz : x.data.toList.length = x.size := by simp
  generalize x.data.toList = L at *
  unfold nameB at h
  cases L with
  | nil => cases h
  | cons c r => simp at h hsz; omega

theorem name_node (x : ByteArray) : nameB x.data.toList = decide ((nodeOf x).1 = 1) := by
  rw [Bool.eq_iff_iff, decide_eq_true_iff]
  unfold nodeOf
  by_cases h4 : x.size ≤ 4000
  · rw [if_pos h4]; exact kind_one.symm
  · rw [if_neg h4]
    refine ⟨fun h => ?_, fun h => by cases h⟩
    have := name_size h
    omega

/-- Is it a right image. -/
def imgB (name : List UInt8) (ver : Int) : Bool := nameB name && decide (0 ≤ ver ∧ ver ≤ 1000000000)

/-- What is measured. -/
def measOf (l : Nat) (name : List UInt8) (v : Nat) : List (List UInt8) := [Num.nameOf l, name, Num.nameOf v]

/-- Is there a measure, and its text. -/
def measOut (layer : Int) (name : List UInt8) (ver : Int) : Bool × List UInt8 :=
  if 0 ≤ layer ∧ layer ≤ 15 ∧ imgB name ver = true then (madeB 4 (measOf layer.toNat name ver.toNat), tmWith 4 (measOf layer.toNat name ver.toNat)) else (false, [])

theorem img_num {name : List UInt8} {ver : Int} (h : imgB name ver = true) : ∃ k : Nat, ver = k ∧ k ≤ 1000000000 := by
  unfold imgB at h
  rw [Bool.and_eq_true, decide_eq_true_iff] at h
  obtain ⟨k, hk⟩ := Int.eq_ofNat_of_zero_le h.2.1
  exact ⟨k, hk, by omega⟩

end Go.Proofs.YtjaaplcgphlccaaGreatDoor
