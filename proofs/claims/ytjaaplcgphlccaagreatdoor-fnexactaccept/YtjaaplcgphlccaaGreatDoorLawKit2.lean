/- A value of more rows than one, written into: what else stands. -/
import Derived.Test.YtjaaplcgphlccaaGreatDoorLawKit
import Derived.Test.YtjaaplcgphlccaaGreatDoorBase
namespace Go.Proofs.YtjaaplcgphlccaaGreatDoor
open Go.RowKit
open Go.Lib (hid)

/-- Nothing old has turned but in the blocks a .. b. -/
structure GrownIn (w w' : World) (a b : Nat) : Prop where
  os : w'.os = w.os
  tape : w'.tape = w.tape
  output : w'.output = w.output
  size : w.heap.size ≤ w'.heap.size
  block : ∀ k, k < w.heap.size → (k < a ∨ b ≤ k) → w'.heap[k]? = w.heap[k]?

theorem grown_both {v u w : World} {r1 r2 : Option Nat} {a b : Nat} (h1 : v.grownBy u r1) (h2 : u.grownBy w r2) (k1 : ∀ k, r1 = some k → a ≤ k ∧ k < b) (k2 : ∀ k, r2 = some k → a ≤ k ∧ k < b) : GrownIn v w a b :=
  ⟨h2.os.trans h1.os, h2.tape.trans h1.tape, h2.output.trans h1.output, Nat.le_trans h1.size h2.size, fun k hk hn =>
    (h2.block k (Nat.lt_of_lt_of_le hk h1.size) (fun e => by have := k2 k e.symm; omega)).trans (h1.block k hk (fun e => by have := k1 k e.symm; omega))⟩

theorem GrownIn.to {B a b : Nat} {v w : World} (h : GrownIn v w a b) (hB : B ≤ v.heap.size) (hr : B ≤ a) : Below B v w :=
  ⟨h.os, h.tape, h.output, h.size, fun k hk => h.block k (Nat.lt_of_lt_of_le hk hB) (Or.inl (Nat.lt_of_lt_of_le hk hr))⟩

theorem GrownIn.row {v w : World} {a b : Nat} (h : GrownIn v w a b) {base size n : Nat} {e : TypeId} {x : Value} {xs : List Value} (ho : v.ownsRow base e size x n xs) (hx : ∀ k, x.ownBlock = some k → k < a ∨ b ≤ k) : w.ownsRow base e size x n xs := by
  refine ⟨ho.1, ?_⟩
  rcases ho.2 with hn | ⟨g, cap, cur, rfl, hb, hg, rest⟩
  · exact .inl hn
  · exact .inr ⟨g, cap, cur, rfl, hb, (h.block g (Array.getElem?_eq_some_iff.1 hg).1 (hx g rfl)).trans hg, rest⟩

theorem ord_ne {v1 v2 : Value} (h : ∀ j k, v1.ownBlock = some j → v2.ownBlock = some k → j < k) : (v2.ownBlock = none ∨ v2.ownBlock ≠ v1.ownBlock) ∧ (v1.ownBlock = none ∨ v1.ownBlock ≠ v2.ownBlock) := by
  cases h1 : v1.ownBlock with
  | none => cases h2 : v2.ownBlock <;> simp
  | some j => cases h2 : v2.ownBlock with
    | none => simp
    | some k =>
      have := h j k h1 h2
      exact ⟨Or.inr (fun e => by have e2 := Option.some.inj e; omega), Or.inr (fun e => by have e2 := Option.some.inj e; omega)⟩

theorem ne_ne {v1 v2 : Value} (h : ∀ j k, v1.ownBlock = some j → v2.ownBlock = some k → j ≠ k) : (v2.ownBlock = none ∨ v2.ownBlock ≠ v1.ownBlock) ∧ (v1.ownBlock = none ∨ v1.ownBlock ≠ v2.ownBlock) := by
  cases h1 : v1.ownBlock with
  | none => cases h2 : v2.ownBlock <;> simp
  | some j => cases h2 : v2.ownBlock with
    | none => simp
    | some k =>
      have := h j k h1 h2
      exact ⟨Or.inr (fun e => this (Option.some.inj e).symm), Or.inr (fun e => this (Option.some.inj e))⟩
end Go.Proofs.YtjaaplcgphlccaaGreatDoor
