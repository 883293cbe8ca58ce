/- What Fold answers: plain facts, no condition. -/
import Derived.Test.YtgmgffbfpbkfmaaGreatDoorExtPlain
import Derived.Test.YtgmgffbfpbkfmaaGreatDoorRowEvent
import Derived.Test.YtgmgffbfpbkfmaaGreatDoorClWalksD
namespace Go.Proofs.YtgmgffbfpbkfmaaGreatDoor
open Go.RowKit

/-- Extend of each, in order. -/
def foldO : List (List UInt8) → List EventD → Option (List (List UInt8))
  | ps, [] => some ps
  | ps, e :: es => if (extOut ps e.x0 e.x1.data.toList).2 = true then foldO (extOut ps e.x0 e.x1.data.toList).1 es else none

theorem foldO_append (a b : List EventD) : ∀ ps, foldO ps (a ++ b) = (foldO ps a).bind fun q => foldO q b := by
  induction a with
  | nil => intro ps; rfl
  | cons e es ih =>
    intro ps
    show (if (extOut ps e.x0 e.x1.data.toList).2 = true then foldO (extOut ps e.x0 e.x1.data.toList).1 (es ++ b) else none) = ((if (extOut ps e.x0 e.x1.data.toList).2 = true then foldO (extOut ps e.x0 e.x1.data.toList).1 es else none).bind fun q => foldO q b)
    by_cases h : (extOut ps e.x0 e.x1.data.toList).2 = true
    · rw [if_pos h, if_pos h]; exact ih _
    · rw [if_neg h, if_neg h]; rfl

theorem foldO_succ (ps : List (List UInt8)) (es : List EventD) (i : Nat) (h : i < es.length) {q : List (List UInt8)} (hq : foldO ps (es.take i) = some q) :
    foldO ps (es.take (i + 1)) = if (extOut q es[i].x0 es[i].x1.data.toList).2 = true then some (extOut q es[i].x0 es[i].x1.data.toList).1 else none := by
  rw [List.take_succ_eq_append_getElem h, foldO_append, hq]
  show foldO q [es[i]] = _
  unfold foldO
  split <;> rfl

theorem foldO_fell (ps : List (List UInt8)) (es : List EventD) (i : Nat) (h : foldO ps (es.take i) = none) : foldO ps es = none := by
  rw [← List.take_append_drop i es, foldO_append, h]
  rfl

theorem ext_regs {ps : List (List UInt8)} {a : Int} {m : List UInt8} (h : (extOut ps a m).2 = true) : regB (extOut ps a m).1 = true := by
  unfold extOut at h ⊢
  split at h
  · rename_i hc
    obtain ⟨h1, h2, h3, h4⟩ := hc
    rw [if_pos ⟨h1, h2, h3, h4⟩]
    show regB (ps.set _ _) = true
    rw [regB_iff] at h1 ⊢
    refine ⟨by rw [List.length_set]; exact h1.1, fun p hp => ?_⟩
    rcases List.mem_or_eq_of_mem_set hp with h | h
    · exact h1.2 p h
    · subst h
      unfold madeB at h4
      rw [decide_eq_true_iff] at h4
      have h5 := h4.2.2
      rw [show (nodeOf (bytesOf (tmWith 4 (hashOf ps a.toNat m)))) = ((4 : Int).toNat, hashOf ps a.toNat m) from h5]
      show (4 : Int).toNat ≠ 0
      decide
  · cases h

theorem fold_regs (es : List EventD) : ∀ ps q, regB ps = true → foldO ps es = some q → regB q = true := by
  induction es with
  | nil => intro ps q h hq; injection hq with hq; subst hq; exact h
  | cons e r ih =>
    intro ps q h hq
    unfold foldO at hq
    split at hq
    · rename_i h2
      exact ih _ q (ext_regs h2) hq
    · cases hq

theorem reg_short {ps : List (List UInt8)} (h : regB ps = true) : ps.length = 8 ∧ ∀ p ∈ ps, p.length ≤ 4000 := by
  rw [regB_iff] at h
  exact ⟨h.1, fun p hp => (nodeOf_bytes p (h.2 p hp)).1⟩

theorem resets_regs : regB (resets 8) = true := by
  rw [regB_iff]
  refine ⟨resets_len 8, fun p hp => ?_⟩
  have : p = resetT := List.eq_of_mem_replicate hp
  subst this
  unfold nodeOf
  rw [if_pos (by rw [bytesOf_size]; decide), bytesOf_list]
  decide +kernel

def tellO : Option (List (List UInt8)) → List (List UInt8) × Bool
  | some q => (q, true)
  | none => ([], false)

/-- What Fold answers. -/
def foldOut (es : List EventD) : List (List UInt8) × Bool :=
  if es.length ≤ 60 then tellO (foldO (resets 8) es) else ([], false)

theorem fold_few (es : List EventD) : (foldOut es).1.length ≤ 8 := by
  unfold foldOut
  split
  · cases hq : foldO (resets 8) es with
    | some q =>
      have := (reg_short (fold_regs es _ _ resets_regs hq)).1
      show q.length ≤ 8
      omega
    | none => exact Nat.zero_le _
  · exact Nat.zero_le _
end Go.Proofs.YtgmgffbfpbkfmaaGreatDoor
