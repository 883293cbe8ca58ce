/- The helpers of the laws on Images: their size, a copy, two held against each other, marks. Written by a program of ours out of the fields. -/
import Derived.Test.YtponjghppnpnhaaDoorMarks
import Derived.Test.YtponjghppnpnhaaDoorFlatRow
import Derived.Deep.RegionHeld3
namespace Go.Proofs.YtponjghppnpnhaaDoor
open Go.RowKit
open Go.Lib (hid)

structure ImageD where
  x0 : ByteArray
  x1 : Int

def encImage (e : ImageD) : List Value := [.string e.x0, .int .i64 e.x1]

theorem encImage_len (e : ImageD) : (encImage e).length = 2 := rfl

theorem encImage_one (e : ImageD) : ∀ v ∈ encImage e, v.oneCell' = true := by
  intro v hv
  simp only [encImage, List.mem_cons, List.not_mem_nil, or_false] at hv
  rcases hv with rfl | rfl <;> rfl

def zImage : ImageD := ⟨⟨#[]⟩, 0⟩

def szImageN (e : ImageD) : Nat := e.x0.size

/-- Each text is one that can be, each number one of 64 bits. -/
def tameImage (e : ImageD) : Prop := e.x0.size ≤ 9223372036854775807 ∧ (-9223372036854775808 ≤ e.x1 ∧ e.x1 ≤ 9223372036854775807)

def mkImage (k i : Nat) : ImageD := ⟨⟨(mtext (k + 2 * i + 0)).toArray⟩, ((k + 2 * i + 1 : Nat) : Int)⟩

def marksImage (k n : Nat) : List ImageD := (List.range n).map (mkImage k)

theorem marksImage_len (k n : Nat) : (marksImage k n).length = n := by simp [marksImage]

theorem marksImage_at (k n i : Nat) (h : i < (marksImage k n).length) : (marksImage k n)[i] = mkImage k i := by simp [marksImage]

set_option maxRecDepth 20000 in
set_option maxHeartbeats 1000000 in
theorem to_Image (x0 : ByteArray) (x1 : Int) (w : World) :
    Calls Tryd.prog 30 #[.agg #[.string x0, .int .i64 x1]] w fun e w' => e = .returned (.agg #[.string x0, .int .i64 x1]) ∧ Below w.heap.size w w' := by
  go_enter Tryd.func30, Tryd.ntmps30
  go_wp2
  refine bodyPost_ret (v := .agg #[.string x0, .int .i64 x1]) (by simp [results, Tryd.results30, go_sem]) rfl ⟨rfl, ?_⟩
  exact (((Below.refl _ _).alloc (Nat.le_refl _) _).alloc (by simp) _).alloc (by simp; omega) _

set_option maxHeartbeats 1000000 in
theorem sz_Image (x0 : ByteArray) (x1 : Int) (h0 : x0.size ≤ 9223372036854775807) (k : Int) (hk0 : 0 ≤ k) (hk1 : k ≤ 1048576) (w : World) :
    Calls Tryd.prog 27 #[.agg #[.string x0, .int .i64 x1], .int .i64 k] w fun e w' => (∃ r : Int, e = .returned (.int .i64 r) ∧ (r < 0 ∨ 0 ≤ r ∧ r + ((szImageN ⟨x0, x1⟩ : Nat) : Int) = k)) ∧ Below w.heap.size w w' := by
  by_cases g0 : k - (x0.size : Int) < 0
  · go_enter Tryd.func27, Tryd.ntmps27
    go_wp2
    go_ret
    exact ⟨⟨-1, rfl, Or.inl (by omega)⟩, (Below.refl _ _).alloc (Nat.le_refl _) _⟩
  · skip
    go_enter Tryd.func27, Tryd.ntmps27
    go_wp2
    go_ret
    exact ⟨⟨_, rfl, Or.inr ⟨by omega, by simp only [szImageN]; omega⟩⟩, (Below.refl _ _).alloc (Nat.le_refl _) _⟩

end Go.Proofs.YtponjghppnpnhaaDoor
