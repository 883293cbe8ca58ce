/- Small facts that the laws on rows of texts share. -/
import Derived.Test.YtjaaplcgphlccaaGreatDoorBase
import Derived.Test.YtjaaplcgphlccaaGreatDoorArgTexts
namespace Go.Proofs.YtjaaplcgphlccaaGreatDoor
open Go.RowKit
open Go.Lib (hid)

theorem marks_texts {w : World} {base n : Nat} {sv : Value} {k : Nat} (h : w.ownsRow base 9 1 sv n (strs (marks k n))) : TextsAt w sv (marks k n) := by
  have hl := marks_len k n
  exact texts_of (by rw [hl]; exact h)

theorem total_mem {ps : List (List UInt8)} {p : List UInt8} (h : p ∈ ps) : p.length ≤ total ps := by
  unfold total
  induction ps with
  | nil => cases h
  | cons x r ih =>
    rw [List.map_cons, List.sum_cons]
    rcases List.mem_cons.1 h with rfl | h
    · omega
    · have := ih h; omega
end Go.Proofs.YtjaaplcgphlccaaGreatDoor
