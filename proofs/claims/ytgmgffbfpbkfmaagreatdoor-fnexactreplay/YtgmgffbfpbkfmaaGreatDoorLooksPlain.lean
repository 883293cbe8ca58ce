/- What a measure looks like, plainly. -/
import Derived.Test.YtgmgffbfpbkfmaaGreatDoorMeasBoth
import Derived.Test.YtgmgffbfpbkfmaaGreatDoorSignPlain
namespace Go.Proofs.YtgmgffbfpbkfmaaGreatDoor

/-- The number that a name stands for, -1 where it is none. -/
def numOf (l : List UInt8) : Int := if Num.fold 0 l.tail ≤ 1000000000 ∧ l = Num.nameOf (Num.fold 0 l.tail) then ((Num.fold 0 l.tail : Nat) : Int) else -1

theorem fold_name (k : Nat) : Num.fold 0 (Num.nameOf k).tail = k := (Num.digits_spell k).1

theorem numOf_name (k : Nat) (hk : k ≤ 1000000000) : numOf (Num.nameOf k) = k := by
  unfold numOf
  rw [fold_name, if_pos ⟨hk, rfl⟩]

theorem numOf_cases (l : List UInt8) : (∃ k : Nat, k ≤ 1000000000 ∧ l = Num.nameOf k ∧ numOf l = k) ∨ (numOf l = -1 ∧ ∀ k : Nat, k ≤ 1000000000 → l ≠ Num.nameOf k) := by
  by_cases h : ∃ k : Nat, k ≤ 1000000000 ∧ l = Num.nameOf k
  · obtain ⟨k, hk, rfl⟩ := h
    exact Or.inl ⟨k, hk, rfl, numOf_name k hk⟩
  · refine Or.inr ⟨?_, fun k hk hl => h ⟨k, hk, hl⟩⟩
    unfold numOf
    rw [if_neg (fun hc => h ⟨_, hc.1, hc.2⟩)]

/-- What Looks answers. -/
def looksO (s : ByteArray) : Bool × Int × List UInt8 × Int :=
  match (nodeOf s).2 with
  | [a, b, c] => if measOut (numOf a) b (numOf c) = (true, s.data.toList) then (true, numOf a, b, numOf c) else (false, 0, [], 0)
  | _ => (false, 0, [], 0)

theorem looksO_few {s : ByteArray} (h : (nodeOf s).2.length ≠ 3) : looksO s = (false, 0, [], 0) := by
  unfold looksO
  split
  · rename_i e
    rw [e] at h
    exact absurd rfl h
  · rfl

theorem looksO_three {s : ByteArray} {a b c : List UInt8} (h : (nodeOf s).2 = [a, b, c]) : looksO s = if measOut (numOf a) b (numOf c) = (true, s.data.toList) then (true, numOf a, b, numOf c) else (false, 0, [], 0) := by
  unfold looksO
  rw [h]

theorem measOut_true {l : Int} {n : List UInt8} {v : Int} (h : (measOut l n v).1 = true) : nodeOf (bytesOf (measOut l n v).2) = (4, measOf l.toNat n v.toNat) := by
  unfold measOut at h ⊢
  by_cases hc : 0 ≤ l ∧ l ≤ 15 ∧ imgB n v = true
  · rw [if_pos hc] at h ⊢
    exact (madeB_node (k := 4) h).1
  · rw [if_neg hc] at h
    cases h

theorem bytes_back (s : ByteArray) : bytesOf s.data.toList = s := by
  apply ByteArray.ext
  simp [bytesOf]

theorem looksO_kind {s : ByteArray} (h : (nodeOf s).1 ≠ 4) : looksO s = (false, 0, [], 0) := by
  unfold looksO
  split
  · rename_i a b c e
    rw [if_neg]
    intro hm
    have h1 := measOut_true (l := numOf a) (n := b) (v := numOf c) (by rw [hm])
    rw [hm, bytes_back] at h1
    rw [h1] at h
    exact h rfl
  · rfl

theorem node_text {s : ByteArray} {k : Nat} {ps : List (List UInt8)} (h : nodeOf s = (k, ps)) (h3 : 3 ≤ k) : s.data.toList = tmWith k ps ∧ shapeB k ps = true := by
  have h0 : (nodeOf s).1 ≠ 0 := by rw [h]; show k ≠ 0; omega
  have h4 := node_size h0
  unfold nodeOf at h
  rw [if_pos h4] at h
  have e : kindS 40 s.data.toList = if nameB s.data.toList then (1, []) else if secretB s.data.toList then (2, []) else brk (fun x => (kindS 39 x).1) s.data.toList := rfl
  rw [e] at h
  split at h
  · injection h with h1 _; omega
  · split at h
    · injection h with h1 _; omega
    · obtain ⟨_, ht, _, _, _, hs, _⟩ := brk_some h (by omega)
      exact ⟨ht, hs⟩
end Go.Proofs.YtgmgffbfpbkfmaaGreatDoor
