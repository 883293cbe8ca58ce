/- The greatest is above all, the least below all; plain. -/
import Derived.Test.YtpecdbgbiecdgaaOverPlain
import Derived.Test.YtpecdbgbiecdgaaWithPlain
namespace Go.Proofs.Ytpecdbgbiecdgaa
open Go.RowKit

theorem mx_top {l : List Nat} (h : cleanB l = true) {i j : Nat} (hij : i < j) (hj : j ≤ l.length) : fkey (l[i]'(by omega)) ≤ fkey (mx l j) := by
  have hl : 0 < l.length := by omega
  induction j with
  | zero => omega
  | succ j ih =>
    have hjl : j < l.length := by omega
    have n1 := clean_at h hjl
    have n2 := mx_clean h hl j (by omega)
    by_cases hg : FloatKind.f64.format.order l[j] (mx l j) = some .gt
    · rw [mx_yes hjl hg]
      rcases Nat.lt_or_ge i j with hlt | hge
      · have := ih hlt (by omega)
        have := (gt_key n1 n2).1 hg
        omega
      · obtain rfl : i = j := by omega
        exact Int.le_refl _
    · rw [mx_no hjl hg]
      have hk := mt (gt_key n1 n2).2 hg
      rcases Nat.lt_or_ge i j with hlt | hge
      · exact ih hlt (by omega)
      · obtain rfl : i = j := by omega
        omega

theorem mn_bot {l : List Nat} (h : cleanB l = true) {i j : Nat} (hij : i < j) (hj : j ≤ l.length) : fkey (mn l j) ≤ fkey (l[i]'(by omega)) := by
  have hl : 0 < l.length := by omega
  induction j with
  | zero => omega
  | succ j ih =>
    have hjl : j < l.length := by omega
    have n1 := clean_at h hjl
    have n2 := mn_clean h hl j (by omega)
    by_cases hg : FloatKind.f64.format.order l[j] (mn l j) = some .lt
    · rw [mn_yes hjl hg]
      rcases Nat.lt_or_ge i j with hlt | hge
      · have := ih hlt (by omega)
        have := (lt_key n1 n2).1 hg
        omega
      · obtain rfl : i = j := by omega
        exact Int.le_refl _
    · rw [mn_no hjl hg]
      have hk := mt (lt_key n1 n2).2 hg
      rcases Nat.lt_or_ge i j with hlt | hge
      · exact ih hlt (by omega)
      · obtain rfl : i = j := by omega
        omega

theorem mx_mem {l : List Nat} (hl : 0 < l.length) (j : Nat) (hj : j ≤ l.length) : ∃ i, ∃ h : i < l.length, mx l j = l[i] := by
  induction j with
  | zero => exact ⟨0, hl, by show l.getD 0 0 = _; simp [List.getD, hl]⟩
  | succ j ih =>
    by_cases hg : FloatKind.f64.format.order (l[j]'(by omega)) (mx l j) = some .gt
    · exact ⟨j, by omega, mx_yes (by omega) hg⟩
    · rw [mx_no (by omega) hg]; exact ih (by omega)

theorem mn_mem {l : List Nat} (hl : 0 < l.length) (j : Nat) (hj : j ≤ l.length) : ∃ i, ∃ h : i < l.length, mn l j = l[i] := by
  induction j with
  | zero => exact ⟨0, hl, by show l.getD 0 0 = _; simp [List.getD, hl]⟩
  | succ j ih =>
    by_cases hg : FloatKind.f64.format.order (l[j]'(by omega)) (mn l j) = some .lt
    · exact ⟨j, by omega, mn_yes (by omega) hg⟩
    · rw [mn_no (by omega) hg]; exact ih (by omega)

theorem ov_parts {l h : List Nat} (hb : ovB l h = true) : (1 ≤ l.length ∧ l.length ≤ 100 ∧ h.length = l.length) ∧ cleanB l = true ∧ cleanB h = true ∧ ¬ FloatKind.f64.format.order (mx l l.length) (mn h h.length) = some .gt := by
  unfold ovB at hb
  simp only [Bool.and_eq_true, decide_eq_true_eq, Bool.not_eq_true', beq_eq_false_iff_ne] at hb
  exact ⟨hb.1.1.1, hb.1.1.2, hb.1.2, hb.2⟩

/-- Nothing in the way: there is an answer. -/
theorem ov_all {l h : List Nat} (hs : 1 ≤ l.length ∧ l.length ≤ 100 ∧ h.length = l.length) (H : ∀ i k (hi : i < l.length) (hk : k < h.length), nanB l[i] = false ∧ nanB h[k] = false ∧ ¬ FloatKind.f64.format.order l[i] h[k] = some .gt) : ovB l h = true := by
  have hl : 0 < l.length := hs.1
  have hh : 0 < h.length := by omega
  have c1 : cleanB l = true := clean_all (fun i hi => (H i 0 hi hh).1)
  have c2 : cleanB h = true := clean_all (fun k hk => (H 0 k hl hk).2.1)
  obtain ⟨i, hi, ei⟩ := mx_mem hl l.length (Nat.le_refl _)
  obtain ⟨k, hk, ek⟩ := mn_mem hh h.length (Nat.le_refl _)
  unfold ovB
  rw [decide_eq_true hs, c1, c2, ei, ek]
  have := (H i k hi hk).2.2
  simpa using this

theorem ov_in {l h : List Nat} (hb : ovB l h = true) {i : Nat} (hi : i < l.length) (hi2 : i < h.length) : leB l[i] (mx l l.length) = true ∧ leB (mn h h.length) h[i] = true ∧ leB (mx l l.length) (mn h h.length) = true := by
  obtain ⟨hs, c1, c2, hg⟩ := ov_parts hb
  have n1 := mx_clean c1 (by omega) l.length (Nat.le_refl _)
  have n2 := mn_clean c2 (by omega) h.length (Nat.le_refl _)
  rw [le_key (clean_at c1 hi) n1, le_key n2 (clean_at c2 hi2), le_key n1 n2]
  have h1 := mx_top c1 hi (Nat.le_refl _)
  have h2 := mn_bot c2 hi2 (Nat.le_refl _)
  have h3 := mt (gt_key n1 n2).2 hg
  exact ⟨decide_eq_true h1, decide_eq_true h2, decide_eq_true (by omega)⟩
end Go.Proofs.Ytpecdbgbiecdgaa
