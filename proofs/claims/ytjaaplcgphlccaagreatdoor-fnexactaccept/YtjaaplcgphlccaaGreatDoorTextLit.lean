/- A row of texts that a literal lays; texts and their bytes. -/
import Derived.Test.YtjaaplcgphlccaaGreatDoorMakeSpec
namespace Go.Proofs.YtjaaplcgphlccaaGreatDoor
open Go.RowKit
open Go.Lib (hid)

/-- A row of texts that a literal lays. -/
theorem lit_texts (w : World) (A : Array Value) (T : TypeId) (ps : List (List UInt8)) (hA : ∀ j (hj : j < ps.length), A[j]? = some (.string ⟨ps[j].toArray⟩)) : TextsAt (w.alloc (.cells A T)) (.slice (some ⟨w.heap.size, 0, none⟩) ps.length ps.length) ps :=
  ⟨_, _, rfl, fun _ => ⟨w.heap.size, rfl, by simp, fun j hj => by rw [cell_of_row _ _ j _ _ _ (heap_alloc_new w (.cells A T)), hA j hj]⟩⟩

theorem back_bytes (b : ByteArray) : (⟨b.data.toList.toArray⟩ : ByteArray) = b := by
  apply ByteArray.ext
  simp

theorem strs_at (l : List (List UInt8)) (i : Nat) (hi : i < l.length) : (strs l)[i]? = some (.string ⟨l[i].toArray⟩) := by simp [strs, List.getElem?_map, List.getElem?_eq_getElem hi]
end Go.Proofs.YtjaaplcgphlccaaGreatDoor
