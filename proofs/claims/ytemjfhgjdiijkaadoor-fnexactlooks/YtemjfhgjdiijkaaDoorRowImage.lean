/- The helpers of the laws on Images: their size, a copy, two held against each other, marks. Written by a program of ours out of the fields. -/
import Derived.Test.YtemjfhgjdiijkaaDoorFlatRow
import Derived.Deep.RegionHeld3
namespace Go.Proofs.YtemjfhgjdiijkaaDoor
open Go.RowKit
open Go.Lib (hid)

structure ImageD where
  x0 : ByteArray
  x1 : Int

def encImage (e : ImageD) : List Value := [.string e.x0, .int .i64 e.x1]

theorem encImage_len (e : ImageD) : (encImage e).length = 2 := rfl

theorem encImage_one (e : ImageD) : ∀ v ∈ encImage e, v.oneCell' = true := by
  intro v hv
  simp only [encImage, List.mem_cons, List.not_mem_nil, or_false] at hv
  rcases hv with rfl | rfl <;> rfl

def zImage : ImageD := ⟨⟨#[]⟩, 0⟩

def szImageN (e : ImageD) : Nat := e.x0.size

/-- Each text is one that can be, each number one of 64 bits. -/
def tameImage (e : ImageD) : Prop := e.x0.size ≤ 9223372036854775807 ∧ (-9223372036854775808 ≤ e.x1 ∧ e.x1 ≤ 9223372036854775807)

set_option maxHeartbeats 1000000 in
theorem eq_Image (x0 : ByteArray) (x1 : Int) (w : World) :
    Calls Tryd.prog 26 #[.agg #[.string x0, .int .i64 x1], .agg #[.string x0, .int .i64 x1]] w fun e w' => e = .returned (.bool true) ∧ Below w.heap.size w w' := by
  have hy0 : (x0.toList == x0.toList) = true := by simp
  have hn0 : (x0.toList != x0.toList) = false := by simp
  go_enter Tryd.func26, Tryd.ntmps26
  go_wp2
  go_ret
  exact ⟨rfl, ((Below.refl _ _).alloc (Nat.le_refl _) _).alloc (by simp) _⟩

end Go.Proofs.YtemjfhgjdiijkaaDoor
