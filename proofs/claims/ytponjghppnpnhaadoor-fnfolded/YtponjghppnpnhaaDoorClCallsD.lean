/- Cleared, the program's: what it answers. -/
import Derived.Test.YtponjghppnpnhaaDoorClWalksD
import Derived.Test.YtponjghppnpnhaaDoorShelf
namespace Go.Proofs.YtponjghppnpnhaaDoor
open Go.RowKit
open Go.Lib (hid)

def resetZ : List ByteArray := List.replicate 8 ⟨resetT.toArray⟩

theorem resetZ_strs : (resetZ.take 8).map Value.string = strs (resets 8) := rfl

theorem resetZ_cells (w : World) (j : Nat) (hj : j < resetZ.length) : (w.alloc (.cells resetA 141)).cell? ⟨w.heap.size, 0 + j, none⟩ = some (.string (resetZ.getD j ByteArray.empty)) := by
  rw [cell_of_row _ _ (0 + j) _ _ _ (heap_alloc_new w (.cells resetA 141)), Nat.zero_add]
  have h8 : j < 8 := by simpa [resetZ] using hj
  have : ∀ j, j < 8 → resetA[j]? = some (.string (resetZ.getD j ByteArray.empty)) := by
    intro j hj
    match j, hj with
    | 0, _ => rfl
    | 1, _ => rfl
    | 2, _ => rfl
    | 3, _ => rfl
    | 4, _ => rfl
    | 5, _ => rfl
    | 6, _ => rfl
    | 7, _ => rfl
  exact this j h8

set_option maxRecDepth 20000 in
set_option maxHeartbeats 2000000 in
theorem list_calls (w : World) : Calls Tryd.prog 108 #[.agg resetA] w fun e w' => ∃ sv, e = .returned sv ∧ Below w.heap.size w w' ∧ w'.ownsRow w.heap.size 9 1 sv (resets 8).length (strs (resets 8)) := by
  have CL := hid (Tryd.slices_Clone_string w.heap.size 0 8 8 resetZ (w.alloc (.cells resetA 141)) (by simp [resetZ]) (by decide) (resetZ_cells w))
  rw [resetZ_strs] at CL
  have HB : Hid (Below w.heap.size w (w.alloc (.cells resetA 141))) := hid ((Below.refl _ _).alloc (Nat.le_refl _) _)
  unfold resetA at *
  go_enter Tryd.func108, Tryd.ntmps108
  go_wp2_with (go_at_call 132; refine CL.out.mono ?_; rintro e w1 ⟨sv1, rfl, ho1, _, hb1⟩; refine Hid.out ?_)
  refine hid ?_
  have HB1 := hid (HB.out.trans (hb1.mono HB.out.size))
  have HO1 := hid ho1
  clear hb1 ho1
  go_wp2
  go_ret
  refine ⟨_, rfl, HB1.out, ?_⟩
  have h := HO1.out
  rw [resets_len]
  refine ⟨h.1, h.2.imp id fun ⟨g, cap, cur, a1, a2, a3⟩ => ⟨g, cap, cur, a1, Nat.le_trans (by simp) a2, a3⟩⟩

set_option maxHeartbeats 2000000 in
theorem cleared_calls (w : World) : Calls Tryd.prog 55 #[] w fun e w' => ∃ sv, e = .returned sv ∧ Below w.heap.size w w' ∧ w'.ownsRow w.heap.size 9 1 sv (resets 8).length (strs (resets 8)) := by
  go_enter Tryd.func55, Tryd.ntmps55
  go_wp2_with (first | (go_at_call 106; refine (clearedRegs_calls _).mono ?_; rintro e w1 ⟨rfl, hb1⟩; have HB1 := hid hb1; clear hb1) | (go_at_call 108; refine (list_calls _).mono ?_; rintro e w2 ⟨sv2, rfl, hb2, ho2⟩; have HB2 := hid (HB1.out.trans (hb2.mono HB1.out.size)); have HO2 := hid ho2; clear hb2 ho2))
  go_ret
  have h := HO2.out
  have hz := HB1.out.size
  exact ⟨_, rfl, HB2.out, h.1, h.2.imp id fun ⟨g, cap, cur, a1, a2, a3⟩ => ⟨g, cap, cur, a1, Nat.le_trans hz a2, a3⟩⟩
end Go.Proofs.YtponjghppnpnhaaDoor
