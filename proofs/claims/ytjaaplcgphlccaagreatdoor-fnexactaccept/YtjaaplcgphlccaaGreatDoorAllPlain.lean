/- Plain facts on all that stands in a term: the list of a term and of what stands in its parts, how long it is, and that more brackets change nothing; no condition. -/
import Derived.Test.YtjaaplcgphlccaaGreatDoorTermBoth
namespace Go.Proofs.YtjaaplcgphlccaaGreatDoor

/-- A term and all that stands in it. -/
def allS : Nat → List UInt8 → List (List UInt8)
  | 0, l => [l]
  | d + 1, l => l :: ((kindS (d + 1) l).2.map (allS d)).flatten

theorem glue_mem' : ∀ (ps : List (List UInt8)) (x : List UInt8), x ∈ ps → x.length ≤ (glue ps).length
  | [], _, h => by cases h
  | [y], x, h => by
    have : x = y := by simpa using h
    rw [this]; exact Nat.le_refl _
  | y :: z :: r, x, h => by
    rw [glue_cons (by simp)]
    simp only [List.length_append, List.length_cons]
    rcases List.mem_cons.1 h with rfl | h
    · omega
    · have := glue_mem' (z :: r) x h
      omega

theorem brk_none' {f : List UInt8 → Nat} {l : List UInt8} (h : (brk f l).1 = 0) : (brk f l).2 = [] := by
  unfold brk at h ⊢
  split
  · rename_i e
    rw [e] at h
    simp only [] at h
    split
    · rename_i hc
      rw [if_pos hc] at h
      exact absurd h hc.1
    · rfl
  · rfl

theorem kindS_none_parts {d : Nat} {l : List UInt8} (h : (kindS d l).1 = 1 ∨ (kindS d l).1 = 2) : (kindS d l).2 = [] := by
  cases d with
  | zero => unfold kindS; split <;> (try split) <;> rfl
  | succ d =>
    unfold kindS at h ⊢
    split
    · rfl
    · rename_i h1
      rw [if_neg h1] at h
      split
      · rfl
      · rename_i h2
        rw [if_neg h2] at h
        have hb := fun hk => brk_some (f := fun x => (kindS d x).1) (l := l) (k := (brk (fun x => (kindS d x).1) l).1) (ps := (brk (fun x => (kindS d x).1) l).2) rfl hk
        have := hb (by omega)
        omega

theorem brk_congr {f g : List UInt8 → Nat} {l : List UInt8} (h : (brk f l).1 ≠ 0) (hfg : ∀ x ∈ (brk f l).2, g x = f x) : brk g l = brk f l := by
  have hb := brk_some (f := f) (l := l) (k := (brk f l).1) (ps := (brk f l).2) rfl h
  obtain ⟨h1, h2, h3, h4, h5, h6, h7, h8⟩ := hb
  generalize hps : (brk f l).2 = ps at *
  generalize hk : (brk f l).1 = k at *
  have e : brk f l = (k, ps) := by rw [← hps, ← hk]
  rw [e]
  have hin : (inner l).bind (cutGo 0 []) = some (wordOf k :: ps) := by
    rw [inner_some.2 h2, Option.bind_some, h8]
  unfold brk
  rw [hin]
  cases ps with
  | nil => exact absurd rfl h1
  | cons p q =>
    have hall : (p :: q).all (fun x => g x != 0) = true := by
      rw [List.all_eq_true]
      intro x hx
      rw [hfg x hx]
      simpa using h7 x hx
    have hc : kindOfW (wordOf k) ≠ 0 ∧ shapeB (kindOfW (wordOf k)) (p :: q) = true ∧ (p :: q).all (fun x => g x != 0) = true := ⟨by rw [h5]; exact h, by rw [h5]; exact h6, hall⟩
    show (if _ then _ else _) = _
    rw [if_pos hc, h5]

theorem kindS_up : ∀ (d : Nat) (l : List UInt8), (kindS d l).1 ≠ 0 → kindS (d + 1) l = kindS d l := by
  intro d
  induction d with
  | zero =>
    intro l h
    unfold kindS at h ⊢
    split
    · rfl
    · rename_i h1
      rw [if_neg h1] at h
      split
      · rfl
      · rename_i h2
        rw [if_neg h2] at h
        exact absurd rfl h
  | succ d ih =>
    intro l h
    unfold kindS
    split
    · rfl
    · rename_i h1
      split
      · rfl
      · rename_i h2
        have e : kindS (d + 1) l = brk (fun x => (kindS d x).1) l := by
          show (if nameB l then (1, []) else if secretB l then (2, []) else brk (fun x => (kindS d x).1) l) = _
          rw [if_neg h1, if_neg h2]
        rw [e] at h
        refine brk_congr h fun x hx => ?_
        have hb := brk_some (f := fun x => (kindS d x).1) (l := l) (k := (brk (fun x => (kindS d x).1) l).1) (ps := (brk (fun x => (kindS d x).1) l).2) rfl h
        have hx0 := hb.2.2.2.2.2.2.1 x hx
        show (kindS (d + 1) x).1 = (kindS d x).1
        rw [ih x hx0]

theorem kindS_le {d e : Nat} (h : d ≤ e) (l : List UInt8) (hk : (kindS d l).1 ≠ 0) : kindS e l = kindS d l := by
  induction e with
  | zero => have : d = 0 := by omega
            subst this; rfl
  | succ e ih =>
    by_cases hd : d = e + 1
    · subst hd; rfl
    · have he := ih (by omega)
      rw [kindS_up e l (by rw [he]; exact hk), he]

/-- A part of a term is a term with one bracket less, and shorter. -/
theorem part_of {d : Nat} {l p : List UInt8} (h : p ∈ (kindS (d + 1) l).2) : (kindS d p).1 ≠ 0 ∧ p.length < l.length := by
  unfold kindS at h
  split at h
  · cases h
  · split at h
    · cases h
    · have hk : (brk (fun x => (kindS d x).1) l).1 ≠ 0 := by
        intro hz
        have := brk_none' hz
        rw [this] at h
        cases h
      have hb := brk_some (f := fun x => (kindS d x).1) (l := l) (k := (brk (fun x => (kindS d x).1) l).1) (ps := (brk (fun x => (kindS d x).1) l).2) rfl hk
      obtain ⟨_, h2, _, _, _, _, h7, _⟩ := hb
      refine ⟨h7 p h, ?_⟩
      have := congrArg List.length h2
      have hg := glue_mem' (wordOf (brk (fun x => (kindS d x).1) l).1 :: (brk (fun x => (kindS d x).1) l).2) p (List.mem_cons_of_mem _ h)
      simp only [List.length_cons, List.length_append, List.length_nil] at this
      omega

theorem total_glue : ∀ (ps : List (List UInt8)), (ps.map List.length).sum ≤ (glue ps).length
  | [] => by simp
  | [x] => by simp [glue]
  | x :: y :: r => by
    have := total_glue (y :: r)
    rw [glue_cons (by simp)]
    simp only [List.map_cons, List.sum_cons, List.length_append, List.length_cons] at this ⊢
    omega

theorem parts_total {d : Nat} {l : List UInt8} (h : (kindS (d + 1) l).1 ≠ 0) : ((kindS (d + 1) l).2.map List.length).sum < l.length := by
  have hl : 0 < l.length := by
    cases l with
    | nil => exact absurd rfl h
    | cons c r => simp
  unfold kindS at h ⊢
  split
  · simpa using hl
  · rename_i h1
    split
    · simpa using hl
    · rename_i h2
      rw [if_neg h1, if_neg h2] at h
      have hb := brk_some (f := fun x => (kindS d x).1) (l := l) (k := (brk (fun x => (kindS d x).1) l).1) (ps := (brk (fun x => (kindS d x).1) l).2) rfl h
      obtain ⟨_, h2, _⟩ := hb
      have := congrArg List.length h2
      have hg := total_glue (wordOf (brk (fun x => (kindS d x).1) l).1 :: (brk (fun x => (kindS d x).1) l).2)
      simp only [List.length_cons, List.length_append, List.length_nil, List.map_cons, List.sum_cons] at this hg
      omega

theorem allS_len : ∀ (d : Nat) (l : List UInt8), (kindS d l).1 ≠ 0 → (allS d l).length ≤ l.length := by
  intro d
  induction d with
  | zero =>
    intro l h
    cases l with
    | nil => exact absurd rfl h
    | cons c r => simp [allS]
  | succ d ih =>
    intro l h
    have ht := parts_total h
    have hp : ∀ p ∈ (kindS (d + 1) l).2, (allS d p).length ≤ p.length := fun p hp => ih p (part_of hp).1
    have key : ∀ (ps : List (List UInt8)), (∀ p ∈ ps, (allS d p).length ≤ p.length) → ((ps.map (allS d)).flatten).length ≤ (ps.map List.length).sum := by
      intro ps
      induction ps with
      | nil => intro _; simp
      | cons p q ihq =>
        intro hq
        have h1 := hq p (by simp)
        have h2 := ihq (fun x hx => hq x (by simp [hx]))
        simp only [List.map_cons, List.flatten_cons, List.length_append, List.sum_cons]
        omega
    have := key _ hp
    simp only [allS, List.length_cons]
    omega

/-- All that stands in a term is a term. -/
theorem allS_kind : ∀ (d : Nat) (l x : List UInt8), (kindS d l).1 ≠ 0 → x ∈ allS d l → (kindS d x).1 ≠ 0 ∧ x.length ≤ l.length := by
  intro d
  induction d with
  | zero =>
    intro l x h hx
    simp only [allS, List.mem_singleton] at hx
    subst hx
    exact ⟨h, Nat.le_refl _⟩
  | succ d ih =>
    intro l x h hx
    simp only [allS, List.mem_cons, List.mem_flatten, List.mem_map] at hx
    rcases hx with rfl | ⟨_, ⟨p, hp, rfl⟩, hx⟩
    · exact ⟨h, Nat.le_refl _⟩
    · obtain ⟨h1, h2⟩ := part_of hp
      obtain ⟨h3, h4⟩ := ih p x h1 hx
      exact ⟨by rw [kindS_up d x h3]; exact h3, by omega⟩

end Go.Proofs.YtjaaplcgphlccaaGreatDoor
