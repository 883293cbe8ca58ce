/- Plain facts on the secrets in a term; no condition. -/
import Derived.Test.YtmjfleejjhahiaaDoorRisingPlain
namespace Go.Proofs.YtmjfleejjhahiaaDoor

/-- The secrets of a term, as they stand in it. -/
def secS : Nat → List UInt8 → List (List UInt8)
  | 0, t => if (kindS 0 t).1 = 2 then [t] else []
  | d + 1, t => if (kindS (d + 1) t).1 = 2 then [t] else ((kindS (d + 1) t).2.map (secS d)).flatten

theorem secS_len : ∀ (d : Nat) (t : List UInt8), (secS d t).length ≤ (allS d t).length := by
  intro d
  induction d with
  | zero => intro t; unfold secS allS; split <;> simp
  | succ d ih =>
    intro t
    unfold secS allS
    split
    · simp
    · have key : ∀ (ps : List (List UInt8)), ((ps.map (secS d)).flatten).length ≤ ((ps.map (allS d)).flatten).length := by
        intro ps
        induction ps with
        | nil => simp
        | cons p q ihq =>
          have := ih p
          simp only [List.map_cons, List.flatten_cons, List.length_append]
          omega
      have := key (kindS (d + 1) t).2
      simp only [List.length_cons]
      omega

theorem secS_mem : ∀ (d : Nat) (t x : List UInt8), (kindS d t).1 ≠ 0 → (x ∈ secS d t ↔ x ∈ allS d t ∧ secretB x = true) := by
  intro d
  induction d with
  | zero =>
    intro t x _
    unfold secS allS
    by_cases h2 : (kindS 0 t).1 = 2
    · rw [if_pos h2]
      constructor
      · intro h
        have e : x = t := by simpa using h
        subst e
        exact ⟨h, kind_two.1 h2⟩
      · exact fun h => h.1
    · rw [if_neg h2]
      constructor
      · intro h; cases h
      · rintro ⟨h, hs⟩
        have e : x = t := by simpa using h
        subst e
        exact absurd (kind_two.2 hs) h2
  | succ d ih =>
    intro t x h0
    unfold secS allS
    by_cases h2 : (kindS (d + 1) t).1 = 2
    · rw [if_pos h2, kindS_none_parts (Or.inr h2)]
      constructor
      · intro h
        have e : x = t := by simpa using h
        subst e
        exact ⟨by simp, kind_two.1 h2⟩
      · exact fun h => by simpa using h.1
    · rw [if_neg h2]
      simp only [List.mem_flatten, List.mem_map, List.mem_cons]
      constructor
      · rintro ⟨_, ⟨p, hp, rfl⟩, hx⟩
        obtain ⟨h3, h4⟩ := (ih p x (part_of hp).1).1 hx
        exact ⟨Or.inr ⟨_, ⟨p, hp, rfl⟩, h3⟩, h4⟩
      · rintro ⟨h, hs⟩
        rcases h with rfl | ⟨_, ⟨p, hp, rfl⟩, hx⟩
        · exact absurd (kind_two.2 hs) h2
        · exact ⟨_, ⟨p, hp, rfl⟩, (ih p x (part_of hp).1).2 ⟨hx, hs⟩⟩

/-- What is among the secrets of a text. -/
def SecIn (s : ByteArray) (x : List UInt8) : Prop := (nodeOf s).1 ≠ 0 ∧ x ∈ allS 40 s.data.toList ∧ secretB x = true
end Go.Proofs.YtmjfleejjhahiaaDoor
