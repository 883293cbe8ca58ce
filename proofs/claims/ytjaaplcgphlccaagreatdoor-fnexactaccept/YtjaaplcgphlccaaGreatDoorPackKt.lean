/- Laid together: LawKit, LawKit2, TouchKit. -/
import Derived.Laws.AppendOwn
import Derived.Lib.Hide
import Derived.Test.YtjaaplcgphlccaaGreatDoorBase

namespace Go.Proofs.YtjaaplcgphlccaaGreatDoor
open Go.RowKit
open Go.Lib (hid)

theorem kept_apart {v x : Value} {a b c d : Nat} (hv : ∀ k, v.ownBlock = some k → a ≤ k ∧ k < b) (hx : ∀ k, x.ownBlock = some k → c ≤ k ∧ k < d) (h : b ≤ c ∨ d ≤ a) : v.ownBlock = none ∨ v.ownBlock ≠ x.ownBlock := by
  cases hb : v.ownBlock with
  | none => exact Or.inl rfl
  | some k =>
    refine Or.inr (fun e => ?_)
    have h1 := hv k hb
    have h2 := hx k e.symm
    omega

end Go.Proofs.YtjaaplcgphlccaaGreatDoor

namespace Go.Proofs.YtjaaplcgphlccaaGreatDoor
open Go.RowKit
open Go.Lib (hid)

/-- Nothing old has turned but in the blocks a .. b. -/
structure GrownIn (w w' : World) (a b : Nat) : Prop where
  os : w'.os = w.os
  tape : w'.tape = w.tape
  output : w'.output = w.output
  size : w.heap.size ≤ w'.heap.size
  block : ∀ k, k < w.heap.size → (k < a ∨ b ≤ k) → w'.heap[k]? = w.heap[k]?

theorem grown_both {v u w : World} {r1 r2 : Option Nat} {a b : Nat} (h1 : v.grownBy u r1) (h2 : u.grownBy w r2) (k1 : ∀ k, r1 = some k → a ≤ k ∧ k < b) (k2 : ∀ k, r2 = some k → a ≤ k ∧ k < b) : GrownIn v w a b :=
  ⟨h2.os.trans h1.os, h2.tape.trans h1.tape, h2.output.trans h1.output, Nat.le_trans h1.size h2.size, fun k hk hn =>
    (h2.block k (Nat.lt_of_lt_of_le hk h1.size) (fun e => by have := k2 k e.symm; omega)).trans (h1.block k hk (fun e => by have := k1 k e.symm; omega))⟩

theorem GrownIn.to {B a b : Nat} {v w : World} (h : GrownIn v w a b) (hB : B ≤ v.heap.size) (hr : B ≤ a) : Below B v w :=
  ⟨h.os, h.tape, h.output, h.size, fun k hk => h.block k (Nat.lt_of_lt_of_le hk hB) (Or.inl (Nat.lt_of_lt_of_le hk hr))⟩

theorem GrownIn.row {v w : World} {a b : Nat} (h : GrownIn v w a b) {base size n : Nat} {e : TypeId} {x : Value} {xs : List Value} (ho : v.ownsRow base e size x n xs) (hx : ∀ k, x.ownBlock = some k → k < a ∨ b ≤ k) : w.ownsRow base e size x n xs := by
  refine ⟨ho.1, ?_⟩
  rcases ho.2 with hn | ⟨g, cap, cur, rfl, hb, hg, rest⟩
  · exact .inl hn
  · exact .inr ⟨g, cap, cur, rfl, hb, (h.block g (Array.getElem?_eq_some_iff.1 hg).1 (hx g rfl)).trans hg, rest⟩

theorem ord_ne {v1 v2 : Value} (h : ∀ j k, v1.ownBlock = some j → v2.ownBlock = some k → j < k) : (v2.ownBlock = none ∨ v2.ownBlock ≠ v1.ownBlock) ∧ (v1.ownBlock = none ∨ v1.ownBlock ≠ v2.ownBlock) := by
  cases h1 : v1.ownBlock with
  | none => cases h2 : v2.ownBlock <;> simp
  | some j => cases h2 : v2.ownBlock with
    | none => simp
    | some k =>
      have := h j k h1 h2
      exact ⟨Or.inr (fun e => by have e2 := Option.some.inj e; omega), Or.inr (fun e => by have e2 := Option.some.inj e; omega)⟩

theorem ne_ne {v1 v2 : Value} (h : ∀ j k, v1.ownBlock = some j → v2.ownBlock = some k → j ≠ k) : (v2.ownBlock = none ∨ v2.ownBlock ≠ v1.ownBlock) ∧ (v1.ownBlock = none ∨ v1.ownBlock ≠ v2.ownBlock) := by
  cases h1 : v1.ownBlock with
  | none => cases h2 : v2.ownBlock <;> simp
  | some j => cases h2 : v2.ownBlock with
    | none => simp
    | some k =>
      have := h j k h1 h2
      exact ⟨Or.inr (fun e => this (Option.some.inj e).symm), Or.inr (fun e => this (Option.some.inj e))⟩
end Go.Proofs.YtjaaplcgphlccaaGreatDoor

namespace Go.Proofs.YtjaaplcgphlccaaGreatDoor
open Go.RowKit
open Go.Lib (hid)

/-- Nothing old has turned but in the own blocks of these values. -/
structure Touch (w w' : World) (vs : List Value) : Prop where
  os : w'.os = w.os
  tape : w'.tape = w.tape
  output : w'.output = w.output
  size : w.heap.size ≤ w'.heap.size
  block : ∀ k, k < w.heap.size → (∀ v ∈ vs, v.ownBlock ≠ some k) → w'.heap[k]? = w.heap[k]?

theorem Touch.of_below {w w' : World} (h : Below w.heap.size w w') (vs : List Value) : Touch w w' vs := ⟨h.os, h.tape, h.output, h.size, fun k hk _ => h.block k hk⟩

theorem Touch.of_grown {w w' : World} {v : Value} (h : w.grownBy w' v.ownBlock) : Touch w w' [v] := ⟨h.os, h.tape, h.output, h.size, fun k hk hn => h.block k hk (fun e => hn v (List.mem_singleton.2 rfl) e.symm)⟩

theorem Touch.trans {w u w' : World} {vs us : List Value} (h : Touch w u vs) (k : Touch u w' us) : Touch w w' (vs ++ us) :=
  ⟨k.os.trans h.os, k.tape.trans h.tape, k.output.trans h.output, Nat.le_trans h.size k.size, fun i hi hn =>
    (k.block i (Nat.lt_of_lt_of_le hi h.size) (fun v hv => hn v (List.mem_append_right _ hv))).trans (h.block i hi (fun v hv => hn v (List.mem_append_left _ hv)))⟩

theorem Touch.of_two {w u w' : World} {a b : Value} (h : w.grownBy u a.ownBlock) (k : u.grownBy w' b.ownBlock) : Touch w w' [a, b] := (Touch.of_grown h).trans (Touch.of_grown k)

/-- Two values lie in blocks apart. -/
def ApartV (x v : Value) : Prop := ∀ j k, x.ownBlock = some j → v.ownBlock = some k → j ≠ k

theorem ApartV.symm {x v : Value} (h : ApartV x v) : ApartV v x := fun j k hj hk e => h k j hk hj e.symm

theorem ApartV.of_lt {x v : Value} (h : ∀ j k, x.ownBlock = some j → v.ownBlock = some k → j < k) : ApartV x v := fun j k hj hk => Nat.ne_of_lt (h j k hj hk)

theorem Touch.row {v w : World} {vs : List Value} (h : Touch v w vs) {base size n : Nat} {e : TypeId} {x : Value} {xs : List Value} (ho : v.ownsRow base e size x n xs) (hx : ∀ y ∈ vs, ApartV x y) : w.ownsRow base e size x n xs := by
  refine ⟨ho.1, ?_⟩
  rcases ho.2 with hn | ⟨g, cap, cur, rfl, hb, hg, rest⟩
  · exact .inl hn
  · exact .inr ⟨g, cap, cur, rfl, hb, (h.block g (Array.getElem?_eq_some_iff.1 hg).1 (fun y hy e => hx y hy g g rfl e rfl)).trans hg, rest⟩

theorem Touch.box {v w : World} {vs : List Value} (h : Touch v w vs) {b : Nat} {o : Obj} (hb : v.heap[b]? = some o) (hx : ∀ y ∈ vs, y.ownBlock ≠ some b) : w.heap[b]? = some o :=
  (h.block b (Array.getElem?_eq_some_iff.1 hb).1 hx).trans hb

theorem Touch.within {v w : World} {vs : List Value} (h : Touch v w vs) {a b : Nat} (hv : ∀ y ∈ vs, ∀ k, y.ownBlock = some k → a ≤ k ∧ k < b) : GrownIn v w a b :=
  ⟨h.os, h.tape, h.output, h.size, fun k hk hn => h.block k hk (fun y hy e => by have := hv y hy k e; omega)⟩

theorem Touch.as {v w : World} {vs us : List Value} (h : Touch v w vs) (e : ∀ y ∈ vs, y ∈ us) : Touch v w us := ⟨h.os, h.tape, h.output, h.size, fun k hk hn => h.block k hk (fun y hy => hn y (e y hy))⟩

theorem touch_one {a : Value} {b : Nat} (h : a.ownBlock ≠ some b) : ∀ y ∈ [a], y.ownBlock ≠ some b := fun y hy => by rw [List.mem_singleton.1 hy]; exact h

theorem touch_two {a c : Value} {b : Nat} (h : a.ownBlock ≠ some b) (k : c.ownBlock ≠ some b) : ∀ y ∈ [a, c], y.ownBlock ≠ some b := fun y hy => by
  rcases List.mem_cons.1 hy with e | e
  · rw [e]; exact h
  · rw [List.mem_singleton.1 e]; exact k

theorem touch_ap {x a : Value} (h : ApartV x a) : ∀ y ∈ [a], ApartV x y := fun y hy => by rw [List.mem_singleton.1 hy]; exact h

theorem touch_ap2 {x a b : Value} (h : ApartV x a) (k : ApartV x b) : ∀ y ∈ [a, b], ApartV x y := fun y hy => by
  rcases List.mem_cons.1 hy with e | e
  · rw [e]; exact h
  · rw [List.mem_singleton.1 e]; exact k

theorem touch_slice {w : World} {base size n : Nat} {e : TypeId} {v : Value} {xs : List Value} (h : w.ownsRow base e size v n xs) : ∃ p c, v = .slice p n c := by
  rcases h.2 with ⟨hv, hz⟩ | ⟨g, cap, cur, e1, _⟩
  · exact ⟨none, 0, by rw [hv, hz]⟩
  · exact ⟨_, _, e1⟩

/-- Rows of one birth written into. -/
theorem within_one {v w : World} {x : Value} {a b : Nat} (h : Touch v w [x]) (hx : ∀ k, x.ownBlock = some k → a ≤ k ∧ k < b) : GrownIn v w a b :=
  h.within (fun y hy => by rw [List.mem_singleton.1 hy]; exact hx)

theorem within_three {v w : World} {x y z : Value} {a b : Nat} (h : Touch v w [x, y, z]) (hx : ∀ k, x.ownBlock = some k → a ≤ k ∧ k < b) (hy : ∀ k, y.ownBlock = some k → a ≤ k ∧ k < b) (hz : ∀ k, z.ownBlock = some k → a ≤ k ∧ k < b) : GrownIn v w a b :=
  h.within (fun u hu => by
    simp only [List.mem_cons, List.not_mem_nil, or_false] at hu
    rcases hu with e | e | e <;> rw [e]
    · exact hx
    · exact hy
    · exact hz)

theorem within_two {v w : World} {x y : Value} {a b : Nat} (h : Touch v w [x, y]) (hx : ∀ k, x.ownBlock = some k → a ≤ k ∧ k < b) (hy : ∀ k, y.ownBlock = some k → a ≤ k ∧ k < b) : GrownIn v w a b :=
  h.within (fun u hu => by
    simp only [List.mem_cons, List.not_mem_nil, or_false] at hu
    rcases hu with e | e <;> rw [e]
    · exact hx
    · exact hy)

theorem within_five {v w : World} {x y z s t : Value} {a b : Nat} (h : Touch v w [x, y, z, s, t]) (hx : ∀ k, x.ownBlock = some k → a ≤ k ∧ k < b) (hy : ∀ k, y.ownBlock = some k → a ≤ k ∧ k < b) (hz : ∀ k, z.ownBlock = some k → a ≤ k ∧ k < b) (hs : ∀ k, s.ownBlock = some k → a ≤ k ∧ k < b) (ht : ∀ k, t.ownBlock = some k → a ≤ k ∧ k < b) : GrownIn v w a b :=
  h.within (fun u hu => by
    simp only [List.mem_cons, List.not_mem_nil, or_false] at hu
    rcases hu with e | e | e | e | e <;> rw [e]
    · exact hx
    · exact hy
    · exact hz
    · exact hs
    · exact ht)
end Go.Proofs.YtjaaplcgphlccaaGreatDoor
