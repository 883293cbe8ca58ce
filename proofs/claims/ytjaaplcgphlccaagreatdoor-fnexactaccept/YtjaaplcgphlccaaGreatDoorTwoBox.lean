/- Two blocks laid one behind the other. -/
import Derived.Test.YtjaaplcgphlccaaGreatDoorBase
namespace Go.Proofs.YtjaaplcgphlccaaGreatDoor
open Go.RowKit

theorem heap_two_old {w : World} (x y : Obj) : ((w.alloc x).alloc y).heap[w.heap.size]? = some x := by
  have h := heap_alloc_new w x
  rw [(((Below.refl (w.alloc x).heap.size (w.alloc x)).alloc (Nat.le_refl _) y).block _ (by simp))]
  exact h

theorem heap_two_new {w : World} (x y : Obj) : ((w.alloc x).alloc y).heap[w.heap.size + 1]? = some y := by
  have h := heap_alloc_new (w.alloc x) y
  simpa using h

theorem size_two (w : World) (x y : Obj) : ((w.alloc x).alloc y).heap.size = w.heap.size + 2 := by simp
end Go.Proofs.YtjaaplcgphlccaaGreatDoor
