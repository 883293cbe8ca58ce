/- The signature by a secret of the hash of parts, plainly. -/
import Derived.Test.YtjaaplcgphlccaaGreatDoorPackMk
import Derived.Test.YtjaaplcgphlccaaGreatDoorPackNum
namespace Go.Proofs.YtjaaplcgphlccaaGreatDoor

/-- The signature by a secret of the hash of these parts. -/
def signO (key : List UInt8) (ps : List (List UInt8)) : Bool × List UInt8 :=
  if madeB 4 ps = true then (madeB 5 [key, tmWith 4 ps], tmWith 5 [key, tmWith 4 ps]) else (false, [])

theorem madeB_node {k : Nat} {ps : List (List UInt8)} (h : madeB k ps = true) : nodeOf (bytesOf (tmWith k ps)) = (k, ps) ∧ 3 ≤ k ∧ k ≤ 7 := by
  unfold madeB at h
  rw [decide_eq_true_iff, Int.toNat_natCast] at h
  exact ⟨h.2.2, by omega, by omega⟩

theorem signO_true {key : List UInt8} {ps : List (List UInt8)} (h : (signO key ps).1 = true) : madeB 4 ps = true ∧ madeB 5 [key, tmWith 4 ps] = true ∧ (signO key ps).2 = tmWith 5 [key, tmWith 4 ps] := by
  unfold signO at h ⊢
  by_cases hm : madeB 4 ps = true
  · rw [if_pos hm] at h ⊢
    exact ⟨hm, h, rfl⟩
  · rw [if_neg hm] at h
    cases h

theorem signO_node {key : List UInt8} {ps : List (List UInt8)} (h : (signO key ps).1 = true) : nodeOf (bytesOf (signO key ps).2) = (5, [key, tmWith 4 ps]) := by
  obtain ⟨_, h2, h3⟩ := signO_true h
  rw [h3]
  exact (madeB_node h2).1

theorem nodeOf_empty : nodeOf (bytesOf []) = (0, []) := by
  unfold nodeOf
  rw [if_pos (by rw [bytesOf_size]; simp), bytesOf_list]
  simp [kindS, nameB, secretB, brk, inner]

theorem madeB_empty {k : Nat} {ps : List (List UInt8)} (h : [] ∈ ps) : madeB k ps = false := by
  cases hm : madeB k ps with
  | false => rfl
  | true =>
    exfalso
    obtain ⟨hn, h3, h7⟩ := madeB_node hm
    have := ((made_parts h3 h7 hn).2.2 [] h).1
    rw [nodeOf_empty] at this
    exact this rfl

theorem signO_empty {key : List UInt8} {ps : List (List UInt8)} (h : [] ∈ ps) : signO key ps = (false, []) := by
  unfold signO
  rw [if_neg (by rw [show madeB 4 ps = false from madeB_empty (k := 4) h]; decide)]

theorem node_size {s : ByteArray} (h : (nodeOf s).1 ≠ 0) : s.size ≤ 4000 := by
  unfold nodeOf at h
  by_cases h4 : s.size ≤ 4000
  · exact h4
  · rw [if_neg h4] at h
    exact absurd rfl h
end Go.Proofs.YtjaaplcgphlccaaGreatDoor
