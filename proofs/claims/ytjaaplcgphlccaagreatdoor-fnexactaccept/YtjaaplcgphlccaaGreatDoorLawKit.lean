/- Two rows in blocks apart; what the laws' walks share. -/
import Derived.Laws.AppendOwn
import Derived.Lib.Hide
namespace Go.Proofs.YtjaaplcgphlccaaGreatDoor
open Go.RowKit
open Go.Lib (hid)

theorem kept_apart {v x : Value} {a b c d : Nat} (hv : ∀ k, v.ownBlock = some k → a ≤ k ∧ k < b) (hx : ∀ k, x.ownBlock = some k → c ≤ k ∧ k < d) (h : b ≤ c ∨ d ≤ a) : v.ownBlock = none ∨ v.ownBlock ≠ x.ownBlock := by
  cases hb : v.ownBlock with
  | none => exact Or.inl rfl
  | some k =>
    refine Or.inr (fun e => ?_)
    have h1 := hv k hb
    have h2 := hx k e.symm
    omega

end Go.Proofs.YtjaaplcgphlccaaGreatDoor
