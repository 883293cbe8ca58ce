/- NonceOf, the specification's and the program's: both answer the same, whatever they are given. -/
import Derived.Test.YtponjghppnpnhaaDoorMeasBoth
namespace Go.Proofs.YtponjghppnpnhaaDoor
open Go.RowKit
open Go.Lib (hid)

theorem secret_nd (x : ByteArray) : secretB x.data.toList = decide ((nodeOf x).1 = 2) := by
  rw [Bool.eq_iff_iff, decide_eq_true_iff]
  unfold nodeOf
  by_cases h4 : x.size ≤ 4000
  · rw [if_pos h4]; exact kind_two.symm
  · rw [if_neg h4]
    refine ⟨fun h => ?_, fun h => by cases h⟩
    have hsz : x.data.toList.length = x.size := by simp
    generalize x.data.toList = L at *
    cases L with
    | nil => cases h
    | cons c r =>
      unfold secretB at h
      rw [Bool.and_eq_true] at h
      have h2 := h.2
      cases r with
      | nil => cases h2
      | cons c2 r2 =>
        unfold nameB at h2
        simp at h2 hsz
        omega

/-- What a nonce is made of. -/
def nonceOf (key : List UInt8) (k : Nat) : List (List UInt8) := [key, Num.nameOf k]

/-- Is there a nonce, and its text. -/
def nonceOut (key : List UInt8) (n : Int) : Bool × List UInt8 :=
  if (0 ≤ n ∧ n ≤ 1000000000) ∧ secretB key = true then (madeB 4 (nonceOf key n.toNat), tmWith 4 (nonceOf key n.toNat)) else (false, [])


end Go.Proofs.YtponjghppnpnhaaDoor
