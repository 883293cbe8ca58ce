/- Plain facts on rising lists of texts: they are known by what is in them; putting in a text at its place; a sorted list of which repeats are struck; no condition. -/
import Derived.Test.YtjaaplcgphlccaaGreatDoorMakePlain
import Derived.Lib.SlicesCompact
namespace Go.Proofs.YtjaaplcgphlccaaGreatDoor

def Rising (l : List (List UInt8)) : Prop := l.Pairwise (fun a b => a < b)

theorem rising_unique : ∀ {a b : List (List UInt8)}, Rising a → Rising b → (∀ x, x ∈ a ↔ x ∈ b) → a = b
  | [], [], _, _, _ => rfl
  | [], y :: _, _, _, h => by have := (h y).2 (by simp); cases this
  | x :: _, [], _, _, h => by have := (h x).1 (by simp); cases this
  | x :: r, y :: q, ha, hb, h => by
    obtain ⟨ha1, ha2⟩ := List.pairwise_cons.1 ha
    obtain ⟨hb1, hb2⟩ := List.pairwise_cons.1 hb
    have hxy : x = y := by
      rcases List.mem_cons.1 ((h x).1 (by simp)) with e | hx
      · exact e
      · rcases List.mem_cons.1 ((h y).2 (by simp)) with e | hy
        · exact e.symm
        · exact absurd (List.lt_trans (hb1 x hx) (ha1 y hy)) (List.lt_irrefl y)
    subst hxy
    have hrq : ∀ z, z ∈ r ↔ z ∈ q := by
      intro z
      constructor
      · intro hz
        rcases List.mem_cons.1 ((h z).1 (List.mem_cons_of_mem _ hz)) with e | hz'
        · subst e; exact absurd (ha1 _ hz) (List.lt_irrefl _)
        · exact hz'
      · intro hz
        rcases List.mem_cons.1 ((h z).2 (List.mem_cons_of_mem _ hz)) with e | hz'
        · subst e; exact absurd (hb1 _ hz) (List.lt_irrefl _)
        · exact hz'
    rw [rising_unique ha2 hb2 hrq]

/-- A text put in at its place. -/
theorem rising_put {o : List (List UInt8)} {x : List UInt8} {k : Nat} (ho : Rising o) (h1 : ∀ z ∈ o.drop k, x < z) (h2 : ∀ z ∈ o.take k, z < x) : Rising (o.take k ++ x :: o.drop k) := by
  unfold Rising at ho ⊢
  rw [← List.take_append_drop k o, List.pairwise_append] at ho
  rw [List.pairwise_append]
  refine ⟨ho.1, ?_, ?_⟩
  · rw [List.pairwise_cons]
    exact ⟨h1, ho.2.1⟩
  · intro a ha b hb
    rcases List.mem_cons.1 hb with rfl | hb
    · exact h2 a ha
    · exact ho.2.2 a ha b hb

/-- All ahead of a place are below, when the one ahead of it is. -/
theorem rising_below {o : List (List UInt8)} {x : List UInt8} {k : Nat} (ho : Rising o) (hk : k ≤ o.length) (h : ∀ (h0 : 0 < k), o[k - 1]'(by omega) < x) : ∀ z ∈ o.take k, z < x := by
  intro z hz
  obtain ⟨j, hj, rfl⟩ := List.getElem_of_mem hz
  rw [List.length_take] at hj
  rw [List.getElem_take]
  by_cases hjk : j = k - 1
  · subst hjk
    exact h (by omega)
  · have hp := List.pairwise_iff_getElem.1 ho j (k - 1) (by omega) (by omega) (by omega)
    exact List.lt_trans hp (h (by omega))

theorem compactUpTo_rising (zs : List (List UInt8)) (hs : zs.Pairwise (fun a b => a ≤ b)) : ∀ m, m ≤ zs.length →
    Rising (Lib.compactUpTo zs.toArray m) ∧ (∀ x, x ∈ Lib.compactUpTo zs.toArray m ↔ x ∈ zs.take m) ∧ ∀ x ∈ Lib.compactUpTo zs.toArray m, ∀ (_ : 0 < m) (hm : m - 1 < zs.length), x ≤ zs[m - 1] := by
  intro m
  induction m with
  | zero =>
    intro _
    refine ⟨?_, ?_, ?_⟩
    · simp [Rising, Lib.compactUpTo]
    · intro x; simp [Lib.compactUpTo]
    · intro x hx; simp [Lib.compactUpTo] at hx
  | succ m ih =>
    intro hm
    obtain ⟨h1, h2, h3⟩ := ih (by omega)
    have hget : ∀ j, j < zs.length → zs.toArray[j]! = zs[j]! := fun j hj => by simp
    have hz : zs.toArray[m]! = zs[m] := by simp [getElem!_pos, show m < zs.length by omega]
    have hmem : ∀ x, x ∈ zs.take (m + 1) ↔ x ∈ zs.take m ∨ x = zs[m] := fun x => by
      rw [List.take_succ_eq_append_getElem (by omega), List.mem_append, List.mem_singleton]
    rw [Lib.compactUpTo_succ]
    by_cases hk : Lib.keeps zs.toArray m = true
    · rw [if_pos hk, hz]
      have hbelow : ∀ x ∈ Lib.compactUpTo zs.toArray m, x < zs[m] := by
        intro x hx
        by_cases h0 : m = 0
        · subst h0; simp [Lib.compactUpTo] at hx
        · have hle := h3 x hx (by omega) (by omega)
          have hne : zs[m - 1] ≠ zs[m] := by
            intro e
            simp only [Lib.keeps, decide_eq_true_eq] at hk
            rcases hk with hk | hk
            · exact h0 hk
            · apply hk
              rw [hz]
              simp [getElem!_pos, show m - 1 < zs.length by omega, e]
          have hlt : zs[m - 1] < zs[m] := by
            have hle2 := List.pairwise_iff_getElem.1 hs (m - 1) m (by omega) (by omega) (by omega)
            rcases Classical.em (zs[m - 1] < zs[m]) with h | h
            · exact h
            · exact absurd (List.le_antisymm hle2 (List.not_lt.1 h)) hne
          rcases Classical.em (x < zs[m]) with h | h
          · exact h
          · exfalso
            have h5 : zs[m] ≤ x := List.not_lt.1 h
            have h6 := List.le_trans h5 hle
            exact (List.not_lt.2 h6) hlt
      refine ⟨?_, ?_, ?_⟩
      · unfold Rising
        rw [List.pairwise_append]
        refine ⟨h1, by simp, ?_⟩
        intro a ha b hb
        have : b = zs[m] := by simpa using hb
        subst this
        exact hbelow a ha
      · intro x
        rw [List.mem_append, h2, List.mem_singleton, hmem]
      · intro x hx _ _
        simp only [Nat.add_sub_cancel]
        rcases List.mem_append.1 hx with hx | hx
        · exact List.le_of_lt (hbelow x hx)
        · have : x = zs[m] := by simpa using hx
          subst this
          exact List.le_refl _
    · rw [if_neg hk, List.append_nil]
      have hk' : ¬ (m = 0 ∨ zs.toArray[m]! ≠ zs.toArray[m - 1]!) := by
        intro h
        apply hk
        simp only [Lib.keeps, decide_eq_true_eq]
        exact h
      have h0 : 0 < m := by
        rcases Nat.eq_zero_or_pos m with h | h
        · exact absurd (Or.inl h) hk'
        · exact h
      have he : zs[m] = zs[m - 1] := by
        rcases Classical.em (zs[m] = zs[m - 1]) with h | h
        · exact h
        · exfalso
          apply hk'
          refine Or.inr ?_
          rw [hz]
          simp [getElem!_pos, show m - 1 < zs.length by omega]
          exact h
      refine ⟨h1, ?_, ?_⟩
      · intro x
        rw [h2, hmem]
        constructor
        · exact Or.inl
        · rintro (h | h)
          · exact h
          · rw [h, he]
            exact List.mem_take_iff_getElem.2 ⟨m - 1, by omega, rfl⟩
      · intro x hx _ _
        simp only [Nat.add_sub_cancel]
        rw [he]
        exact h3 x hx h0 (by omega)

/-- A sorted list of which repeats are struck is rising, and has what it had. -/
theorem compact_rising (zs : List (List UInt8)) (hs : zs.Pairwise (fun a b => a ≤ b)) : Rising (Lib.compact zs) ∧ ∀ x, x ∈ Lib.compact zs ↔ x ∈ zs := by
  obtain ⟨h1, h2, _⟩ := compactUpTo_rising zs hs zs.length (Nat.le_refl _)
  refine ⟨h1, fun x => ?_⟩
  have := h2 x
  rw [List.take_of_length_le (Nat.le_refl _)] at this
  exact this

theorem sorted_le (ss : List (List UInt8)) : (ss.mergeSort fun x y => decide (x ≤ y)).Pairwise (fun a b => a ≤ b) := by
  have h := List.pairwise_mergeSort (le := fun (x y : List UInt8) => decide (x ≤ y)) (fun a b c h1 h2 => by simp only [decide_eq_true_eq] at *; exact List.le_trans h1 h2) (fun a b => by simp only [Bool.or_eq_true, decide_eq_true_eq]; exact List.le_total a b) ss
  exact h.imp (fun h => by simpa using h)

/-- Sorted, and repeats struck. -/
theorem sort_compact (ss : List (List UInt8)) : Rising (Lib.compact (ss.mergeSort fun x y => decide (x ≤ y))) ∧ ∀ x, x ∈ Lib.compact (ss.mergeSort fun x y => decide (x ≤ y)) ↔ x ∈ ss := by
  obtain ⟨h1, h2⟩ := compact_rising _ (sorted_le ss)
  refine ⟨h1, fun x => ?_⟩
  rw [h2]
  exact (List.mergeSort_perm ss _).mem_iff
end Go.Proofs.YtjaaplcgphlccaaGreatDoor
