/- Slices of texts that came in, opened: for the structs that hold them. -/
import Derived.Test.YtjaaplcgphlccaaGreatDoorArgFlat
import Derived.Test.YtjaaplcgphlccaaGreatDoorArgTexts
import Derived.Test.YtjaaplcgphlccaaGreatDoorTabLaid
namespace Go.Proofs.YtjaaplcgphlccaaGreatDoor
open Go.ChangeShapes Go.WideShapes Go.ChangeAt Go.RowKit

theorem arg_strs {H : Type} {enc : TypeId × Value → H} {W : World} {base fuel : Nat} {spare : Nat → Bool} {held : Bool} {v : Value} {x : DataW H × List MemPlace}
    (hf : DataW.trod enc Tryz.prog W base spare held fuel 22 [v] = some x) (hsp : ∀ k, spare k = true) : ∃ ps : List (List UInt8), ArgAt W v ps ∧ (∀ p ∈ ps, p.length ≤ 9223372036854775807) ∧ ps.length ≤ 9223372036854775807 := by
  rcases open_strings Tryz.underlying22 Tryz.underlying9 cells_string hf with ⟨hcs, _⟩ | ⟨ad, len', cap', ss, hcs, _, hl, hm, hz, _, hcell, hsz⟩
  · injection hcs with hcs _
    rw [hcs]
    exact ⟨[], ⟨none, 0, rfl, fun i hi => absurd hi (by simp)⟩, by simp, by simp⟩
  · injection hcs with hcs _
    rw [hcs]
    rw [if_pos (hsp _)] at hz
    have hlen : ((ss.take len').map (·.data.toList)).length = len' := by simp; omega
    refine ⟨(ss.take len').map (·.data.toList), ⟨some ad, cap', by rw [hlen], fun i hi => ⟨ad, rfl, ?_, ?_⟩⟩, ?_, ?_⟩
    · rw [hlen] at hi
      have := World.block_lt_of_cell? W _ (hcell i (by omega))
      rw [add_block] at this
      exact this
    · rw [hlen] at hi
      rw [hcell i (by omega), List.getElem_map, List.getElem_take]
      simp [List.getD_eq_getElem?_getD, List.getElem?_eq_getElem (show i < ss.length by omega)]
    · intro p hp
      obtain ⟨s, hs, rfl⟩ := List.mem_map.1 hp
      have := hsz s (List.mem_of_mem_take hs)
      unfold maxLen at this
      simpa using this
    · rw [hlen]
      unfold maxLen at hm
      omega

end Go.Proofs.YtjaaplcgphlccaaGreatDoor
