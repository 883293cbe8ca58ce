/- The helpers of the laws on Refs: their size, a copy, two held against each other, marks. Written by a program of ours out of the fields. -/
import Derived.Test.YtjaaplcgphlccaaGreatDoorMarks
import Derived.Test.YtjaaplcgphlccaaGreatDoorFlatRow
import Derived.Deep.RegionHeld3
namespace Go.Proofs.YtjaaplcgphlccaaGreatDoor
open Go.RowKit
open Go.Lib (hid)

structure RefD where
  x0 : Int
  x1 : ByteArray
  x2 : Int

def encRef (e : RefD) : List Value := [.int .i64 e.x0, .string e.x1, .int .i64 e.x2]

theorem encRef_len (e : RefD) : (encRef e).length = 3 := rfl

theorem encRef_one (e : RefD) : ∀ v ∈ encRef e, v.oneCell' = true := by
  intro v hv
  simp only [encRef, List.mem_cons, List.not_mem_nil, or_false] at hv
  rcases hv with rfl | rfl | rfl <;> rfl

def zRef : RefD := ⟨0, ⟨#[]⟩, 0⟩

def szRefN (e : RefD) : Nat := e.x1.size

/-- Each text is one that can be, each number one of 64 bits. -/
def tameRef (e : RefD) : Prop := e.x1.size ≤ 9223372036854775807 ∧ (-9223372036854775808 ≤ e.x0 ∧ e.x0 ≤ 9223372036854775807) ∧ (-9223372036854775808 ≤ e.x2 ∧ e.x2 ≤ 9223372036854775807)

def mkRef (k i : Nat) : RefD := ⟨((k + 3 * i + 0 : Nat) : Int), ⟨(mtext (k + 3 * i + 1)).toArray⟩, ((k + 3 * i + 2 : Nat) : Int)⟩

def marksRef (k n : Nat) : List RefD := (List.range n).map (mkRef k)

theorem marksRef_len (k n : Nat) : (marksRef k n).length = n := by simp [marksRef]

theorem marksRef_at (k n i : Nat) (h : i < (marksRef k n).length) : (marksRef k n)[i] = mkRef k i := by simp [marksRef]

end Go.Proofs.YtjaaplcgphlccaaGreatDoor
