/- Laid together: TextKit, LawKit. -/
import Derived.Test.YtgmgffbfpbkfmaaGreatDoorBase
import Derived.Test.YtgmgffbfpbkfmaaGreatDoorArgTexts
import Derived.Laws.AppendOwn
import Derived.Lib.Hide

namespace Go.Proofs.YtgmgffbfpbkfmaaGreatDoor
open Go.RowKit
open Go.Lib (hid)

theorem marks_texts {w : World} {base n : Nat} {sv : Value} {k : Nat} (h : w.ownsRow base 9 1 sv n (strs (marks k n))) : TextsAt w sv (marks k n) := by
  have hl := marks_len k n
  exact texts_of (by rw [hl]; exact h)

theorem total_mem {ps : List (List UInt8)} {p : List UInt8} (h : p ∈ ps) : p.length ≤ total ps := by
  unfold total
  induction ps with
  | nil => cases h
  | cons x r ih =>
    rw [List.map_cons, List.sum_cons]
    rcases List.mem_cons.1 h with rfl | h
    · omega
    · have := ih h; omega
end Go.Proofs.YtgmgffbfpbkfmaaGreatDoor

namespace Go.Proofs.YtgmgffbfpbkfmaaGreatDoor
open Go.RowKit
open Go.Lib (hid)

theorem kept_apart {v x : Value} {a b c d : Nat} (hv : ∀ k, v.ownBlock = some k → a ≤ k ∧ k < b) (hx : ∀ k, x.ownBlock = some k → c ≤ k ∧ k < d) (h : b ≤ c ∨ d ≤ a) : v.ownBlock = none ∨ v.ownBlock ≠ x.ownBlock := by
  cases hb : v.ownBlock with
  | none => exact Or.inl rfl
  | some k =>
    refine Or.inr (fun e => ?_)
    have h1 := hv k hb
    have h2 := hx k e.symm
    omega

end Go.Proofs.YtgmgffbfpbkfmaaGreatDoor
