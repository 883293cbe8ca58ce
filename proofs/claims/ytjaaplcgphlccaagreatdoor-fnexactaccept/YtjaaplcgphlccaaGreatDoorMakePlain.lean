/- Plain facts on making a term: the text of a kind and parts, and that both ways of asking whether it is a term of them say the same; no condition. -/
import Derived.Test.YtjaaplcgphlccaaGreatDoorAllPlain
import Derived.Test.YtjaaplcgphlccaaGreatDoorFacePartsS
namespace Go.Proofs.YtjaaplcgphlccaaGreatDoor

/-- The text of a kind and parts. -/
def tmWith (k : Nat) (ps : List (List UInt8)) : List UInt8 := 40 :: (glue (wordOf k :: ps) ++ [41])

def bytesOf (l : List UInt8) : ByteArray := ⟨l.toArray⟩

theorem bytesOf_list (l : List UInt8) : (bytesOf l).data.toList = l := rfl
theorem bytesOf_size (l : List UInt8) : (bytesOf l).size = l.length := by
  show l.toArray.size = _
  simp

/-- Is it made? -/
def madeB (kind : Int) (ps : List (List UInt8)) : Bool := decide (3 ≤ kind ∧ kind ≤ 7 ∧ nodeOf (bytesOf (tmWith kind.toNat ps)) = (kind.toNat, ps))

theorem nodeOf_bytes (l : List UInt8) (h : (nodeOf (bytesOf l)).1 ≠ 0) : l.length ≤ 4000 ∧ nodeOf (bytesOf l) = kindS 40 l := by
  unfold nodeOf at h ⊢
  split at h
  · rename_i h4
    rw [bytesOf_size] at h4
    exact ⟨h4, by rw [if_pos (by rw [bytesOf_size]; exact h4)]; rfl⟩
  · exact absurd rfl h

theorem low_not40 {l : List UInt8} : nameB (40 :: l) = false ∧ secretB (40 :: l) = false := by
  constructor
  · simp [nameB, isLow]
  · simp [secretB]

/-- A text in brackets whose pieces are these. -/
theorem kind_pieces (d : Nat) (k : Nat) (h3 : 3 ≤ k) (h7 : k ≤ 7) (ps : List (List UInt8)) (hp : ∀ x ∈ ps, Pass x) (h0 : (kindS (d + 1) (tmWith k ps)).1 ≠ 0) : kindS (d + 1) (tmWith k ps) = (k, ps) ∧ ∀ x ∈ ps, (kindS d x).1 ≠ 0 := by
  have e : kindS (d + 1) (tmWith k ps) = brk (fun x => (kindS d x).1) (tmWith k ps) := by
    show (if nameB (tmWith k ps) then (1, []) else if secretB (tmWith k ps) then (2, []) else brk (fun x => (kindS d x).1) (tmWith k ps)) = _
    rw [show nameB (tmWith k ps) = false from low_not40.1, show secretB (tmWith k ps) = false from low_not40.2]
    rfl
  rw [e] at h0 ⊢
  have hin : (inner (tmWith k ps)).bind (cutGo 0 []) = some (wordOf k :: ps) := by
    rw [show inner (tmWith k ps) = some (glue (wordOf k :: ps)) from inner_some.2 rfl, Option.bind_some]
    rw [cut_glue (wordOf k :: ps) (by simp) (fun x hx => ?_) []]
    · simp
    · rcases List.mem_cons.1 hx with rfl | hx
      · exact pass_name (word_all h3 h7)
      · exact hp x hx
  have hw := kindOfW_word h3 h7
  unfold brk at h0 ⊢
  rw [hin] at h0 ⊢
  cases ps with
  | nil => exact absurd rfl h0
  | cons p q =>
    simp only [hw] at h0 ⊢
    by_cases hc : k ≠ 0 ∧ shapeB k (p :: q) = true ∧ (p :: q).all (fun x => (kindS d x).1 != 0) = true
    · refine ⟨?_, fun x hx => ?_⟩
      · rw [if_pos hc]
      · simpa using List.all_eq_true.1 hc.2.2 x hx
    · exfalso
      apply h0
      rw [if_neg hc]

/-- The text with no part but a blank is no term. -/
theorem kind_blank (k : Nat) (h3 : 3 ≤ k) (h7 : k ≤ 7) : (nodeOf (bytesOf (tmWith k [[]]))).1 = 0 := by
  by_cases h0 : (nodeOf (bytesOf (tmWith k [[]]))).1 = 0
  · exact h0
  · exfalso
    obtain ⟨_, hn⟩ := nodeOf_bytes _ h0
    rw [hn] at h0
    have := (kind_pieces 39 k h3 h7 [[]] (fun x hx => by
      have : x = [] := by simpa using hx
      subst this
      intro d cur r
      simp) h0).2 [] (by simp)
    apply this
    simp [kindS, nameB, secretB, brk, inner]

/-- What is made has parts as its kind wants them. -/
theorem made_parts {k : Nat} {ps : List (List UInt8)} (h3 : 3 ≤ k) (h7 : k ≤ 7) (h : nodeOf (bytesOf (tmWith k ps)) = (k, ps)) : ps ≠ [] ∧ ps.length ≤ mostOf k ∧ (∀ x ∈ ps, (nodeOf (bytesOf x)).1 ≠ 0 ∧ x.length ≤ 4000) := by
  have h0 : (nodeOf (bytesOf (tmWith k ps))).1 ≠ 0 := by rw [h]; show k ≠ 0; omega
  obtain ⟨h4, hn⟩ := nodeOf_bytes _ h0
  rw [hn] at h
  have e : kindS 40 (tmWith k ps) = brk (fun x => (kindS 39 x).1) (tmWith k ps) := by
    show (if nameB (tmWith k ps) then (1, []) else if secretB (tmWith k ps) then (2, []) else brk (fun x => (kindS 39 x).1) (tmWith k ps)) = _
    rw [show nameB (tmWith k ps) = false from low_not40.1, show secretB (tmWith k ps) = false from low_not40.2]
    rfl
  rw [e] at h
  obtain ⟨hne, _, _, _, _, hsh, hall, _⟩ := brk_some h (by omega)
  simp only [shapeB, Bool.and_eq_true, decide_eq_true_eq] at hsh
  refine ⟨hne, hsh.1.2, fun x hx => ?_⟩
  have hlen : x.length ≤ 4000 := by
    have h1 := glue_mem' (wordOf k :: ps) x (List.mem_cons_of_mem _ hx)
    have h2 : (tmWith k ps).length = (glue (wordOf k :: ps)).length + 2 := by simp [tmWith]
    omega
  refine ⟨?_, hlen⟩
  have hk := hall x hx
  rw [nodeOf_short _ (by rw [bytesOf_size]; exact hlen), bytesOf_list, kindS_le (d := 39) (by omega) x hk]
  exact hk

theorem nodeOf_pass {x : List UInt8} (h : (nodeOf (bytesOf x)).1 ≠ 0) : Pass x := by
  obtain ⟨_, hn⟩ := nodeOf_bytes x h
  rw [hn] at h
  exact pass_term 40 x h

theorem most_few (k : Nat) : mostOf k ≤ 8 := by unfold mostOf; split <;> omega

/-- The program's way of asking: its parts are terms, no more than its kind takes, and the text has that kind. -/
theorem made_iff {k : Nat} (h3 : 3 ≤ k) (h7 : k ≤ 7) (ps : List (List UInt8)) (hp : ∀ x ∈ ps, (nodeOf (bytesOf x)).1 ≠ 0) : (nodeOf (bytesOf (tmWith k ps))).1 = k ↔ nodeOf (bytesOf (tmWith k ps)) = (k, ps) := by
  constructor
  · intro h
    have h0 : (nodeOf (bytesOf (tmWith k ps))).1 ≠ 0 := by rw [h]; omega
    obtain ⟨_, hn⟩ := nodeOf_bytes _ h0
    rw [hn] at h0 ⊢
    exact (kind_pieces 39 k h3 h7 ps (fun x hx => nodeOf_pass (hp x hx)) h0).1
  · intro h; rw [h]
end Go.Proofs.YtjaaplcgphlccaaGreatDoor
