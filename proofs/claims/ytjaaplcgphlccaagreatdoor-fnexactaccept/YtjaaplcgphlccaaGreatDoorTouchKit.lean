/- Rows written into, as many as one likes: what else stands. Plain; no condition but what each names. -/
import Derived.Test.YtjaaplcgphlccaaGreatDoorLawKit2
namespace Go.Proofs.YtjaaplcgphlccaaGreatDoor
open Go.RowKit
open Go.Lib (hid)

/-- Nothing old has turned but in the own blocks of these values. -/
structure Touch (w w' : World) (vs : List Value) : Prop where
  os : w'.os = w.os
  tape : w'.tape = w.tape
  output : w'.output = w.output
  size : w.heap.size ≤ w'.heap.size
  block : ∀ k, k < w.heap.size → (∀ v ∈ vs, v.ownBlock ≠ some k) → w'.heap[k]? = w.heap[k]?

theorem Touch.of_below {w w' : World} (h : Below w.heap.size w w') (vs : List Value) : Touch w w' vs := ⟨h.os, h.tape, h.output, h.size, fun k hk _ => h.block k hk⟩

theorem Touch.of_grown {w w' : World} {v : Value} (h : w.grownBy w' v.ownBlock) : Touch w w' [v] := ⟨h.os, h.tape, h.output, h.size, fun k hk hn => h.block k hk (fun e => hn v (List.mem_singleton.2 rfl) e.symm)⟩

theorem Touch.trans {w u w' : World} {vs us : List Value} (h : Touch w u vs) (k : Touch u w' us) : Touch w w' (vs ++ us) :=
  ⟨k.os.trans h.os, k.tape.trans h.tape, k.output.trans h.output, Nat.le_trans h.size k.size, fun i hi hn =>
    (k.block i (Nat.lt_of_lt_of_le hi h.size) (fun v hv => hn v (List.mem_append_right _ hv))).trans (h.block i hi (fun v hv => hn v (List.mem_append_left _ hv)))⟩

theorem Touch.of_two {w u w' : World} {a b : Value} (h : w.grownBy u a.ownBlock) (k : u.grownBy w' b.ownBlock) : Touch w w' [a, b] := (Touch.of_grown h).trans (Touch.of_grown k)

/-- Two values lie in blocks apart. -/
def ApartV (x v : Value) : Prop := ∀ j k, x.ownBlock = some j → v.ownBlock = some k → j ≠ k

theorem ApartV.symm {x v : Value} (h : ApartV x v) : ApartV v x := fun j k hj hk e => h k j hk hj e.symm

theorem ApartV.of_lt {x v : Value} (h : ∀ j k, x.ownBlock = some j → v.ownBlock = some k → j < k) : ApartV x v := fun j k hj hk => Nat.ne_of_lt (h j k hj hk)

theorem Touch.row {v w : World} {vs : List Value} (h : Touch v w vs) {base size n : Nat} {e : TypeId} {x : Value} {xs : List Value} (ho : v.ownsRow base e size x n xs) (hx : ∀ y ∈ vs, ApartV x y) : w.ownsRow base e size x n xs := by
  refine ⟨ho.1, ?_⟩
  rcases ho.2 with hn | ⟨g, cap, cur, rfl, hb, hg, rest⟩
  · exact .inl hn
  · exact .inr ⟨g, cap, cur, rfl, hb, (h.block g (Array.getElem?_eq_some_iff.1 hg).1 (fun y hy e => hx y hy g g rfl e rfl)).trans hg, rest⟩

theorem Touch.box {v w : World} {vs : List Value} (h : Touch v w vs) {b : Nat} {o : Obj} (hb : v.heap[b]? = some o) (hx : ∀ y ∈ vs, y.ownBlock ≠ some b) : w.heap[b]? = some o :=
  (h.block b (Array.getElem?_eq_some_iff.1 hb).1 hx).trans hb

theorem Touch.within {v w : World} {vs : List Value} (h : Touch v w vs) {a b : Nat} (hv : ∀ y ∈ vs, ∀ k, y.ownBlock = some k → a ≤ k ∧ k < b) : GrownIn v w a b :=
  ⟨h.os, h.tape, h.output, h.size, fun k hk hn => h.block k hk (fun y hy e => by have := hv y hy k e; omega)⟩

theorem Touch.as {v w : World} {vs us : List Value} (h : Touch v w vs) (e : ∀ y ∈ vs, y ∈ us) : Touch v w us := ⟨h.os, h.tape, h.output, h.size, fun k hk hn => h.block k hk (fun y hy => hn y (e y hy))⟩

theorem touch_one {a : Value} {b : Nat} (h : a.ownBlock ≠ some b) : ∀ y ∈ [a], y.ownBlock ≠ some b := fun y hy => by rw [List.mem_singleton.1 hy]; exact h

theorem touch_two {a c : Value} {b : Nat} (h : a.ownBlock ≠ some b) (k : c.ownBlock ≠ some b) : ∀ y ∈ [a, c], y.ownBlock ≠ some b := fun y hy => by
  rcases List.mem_cons.1 hy with e | e
  · rw [e]; exact h
  · rw [List.mem_singleton.1 e]; exact k

theorem touch_ap {x a : Value} (h : ApartV x a) : ∀ y ∈ [a], ApartV x y := fun y hy => by rw [List.mem_singleton.1 hy]; exact h

theorem touch_ap2 {x a b : Value} (h : ApartV x a) (k : ApartV x b) : ∀ y ∈ [a, b], ApartV x y := fun y hy => by
  rcases List.mem_cons.1 hy with e | e
  · rw [e]; exact h
  · rw [List.mem_singleton.1 e]; exact k

theorem touch_slice {w : World} {base size n : Nat} {e : TypeId} {v : Value} {xs : List Value} (h : w.ownsRow base e size v n xs) : ∃ p c, v = .slice p n c := by
  rcases h.2 with ⟨hv, hz⟩ | ⟨g, cap, cur, e1, _⟩
  · exact ⟨none, 0, by rw [hv, hz]⟩
  · exact ⟨_, _, e1⟩

/-- Rows of one birth written into. -/
theorem within_one {v w : World} {x : Value} {a b : Nat} (h : Touch v w [x]) (hx : ∀ k, x.ownBlock = some k → a ≤ k ∧ k < b) : GrownIn v w a b :=
  h.within (fun y hy => by rw [List.mem_singleton.1 hy]; exact hx)

theorem within_three {v w : World} {x y z : Value} {a b : Nat} (h : Touch v w [x, y, z]) (hx : ∀ k, x.ownBlock = some k → a ≤ k ∧ k < b) (hy : ∀ k, y.ownBlock = some k → a ≤ k ∧ k < b) (hz : ∀ k, z.ownBlock = some k → a ≤ k ∧ k < b) : GrownIn v w a b :=
  h.within (fun u hu => by
    simp only [List.mem_cons, List.not_mem_nil, or_false] at hu
    rcases hu with e | e | e <;> rw [e]
    · exact hx
    · exact hy
    · exact hz)

theorem within_two {v w : World} {x y : Value} {a b : Nat} (h : Touch v w [x, y]) (hx : ∀ k, x.ownBlock = some k → a ≤ k ∧ k < b) (hy : ∀ k, y.ownBlock = some k → a ≤ k ∧ k < b) : GrownIn v w a b :=
  h.within (fun u hu => by
    simp only [List.mem_cons, List.not_mem_nil, or_false] at hu
    rcases hu with e | e <;> rw [e]
    · exact hx
    · exact hy)

theorem within_five {v w : World} {x y z s t : Value} {a b : Nat} (h : Touch v w [x, y, z, s, t]) (hx : ∀ k, x.ownBlock = some k → a ≤ k ∧ k < b) (hy : ∀ k, y.ownBlock = some k → a ≤ k ∧ k < b) (hz : ∀ k, z.ownBlock = some k → a ≤ k ∧ k < b) (hs : ∀ k, s.ownBlock = some k → a ≤ k ∧ k < b) (ht : ∀ k, t.ownBlock = some k → a ≤ k ∧ k < b) : GrownIn v w a b :=
  h.within (fun u hu => by
    simp only [List.mem_cons, List.not_mem_nil, or_false] at hu
    rcases hu with e | e | e | e | e <;> rw [e]
    · exact hx
    · exact hy
    · exact hz
    · exact hs
    · exact ht)
end Go.Proofs.YtjaaplcgphlccaaGreatDoor
