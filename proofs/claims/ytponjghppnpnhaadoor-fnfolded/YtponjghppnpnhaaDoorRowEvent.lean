/- The helpers of the laws on Events: their size, a copy, two held against each other, marks. Written by a program of ours out of the fields. -/
import Derived.Test.YtponjghppnpnhaaDoorMarks
import Derived.Test.YtponjghppnpnhaaDoorFlatRow
import Derived.Deep.RegionHeld3
namespace Go.Proofs.YtponjghppnpnhaaDoor
open Go.RowKit
open Go.Lib (hid)

structure EventD where
  x0 : Int
  x1 : ByteArray

def encEvent (e : EventD) : List Value := [.int .i64 e.x0, .string e.x1]

theorem encEvent_len (e : EventD) : (encEvent e).length = 2 := rfl

theorem encEvent_one (e : EventD) : ∀ v ∈ encEvent e, v.oneCell' = true := by
  intro v hv
  simp only [encEvent, List.mem_cons, List.not_mem_nil, or_false] at hv
  rcases hv with rfl | rfl <;> rfl

def zEvent : EventD := ⟨0, ⟨#[]⟩⟩

def szEventN (e : EventD) : Nat := e.x1.size

/-- Each text is one that can be, each number one of 64 bits. -/
def tameEvent (e : EventD) : Prop := e.x1.size ≤ 9223372036854775807 ∧ (-9223372036854775808 ≤ e.x0 ∧ e.x0 ≤ 9223372036854775807)

def mkEvent (k i : Nat) : EventD := ⟨((k + 2 * i + 0 : Nat) : Int), ⟨(mtext (k + 2 * i + 1)).toArray⟩⟩

def marksEvent (k n : Nat) : List EventD := (List.range n).map (mkEvent k)

theorem marksEvent_len (k n : Nat) : (marksEvent k n).length = n := by simp [marksEvent]

theorem marksEvent_at (k n i : Nat) (h : i < (marksEvent k n).length) : (marksEvent k n)[i] = mkEvent k i := by simp [marksEvent]

end Go.Proofs.YtponjghppnpnhaaDoor
