/- The greatest and the least of a list of floats, the first of those that are alike; plain. -/
import Derived.Test.YtpecdbgbiecdgaaFloatNan
namespace Go.Proofs.Ytpecdbgbiecdgaa
open Go.RowKit

/-- The greatest among the first so many, the first of those that are alike. -/
def mx (l : List Nat) : Nat → Nat
  | 0 => l.getD 0 0
  | i + 1 => if FloatKind.f64.format.order (l.getD i 0) (mx l i) = some .gt then l.getD i 0 else mx l i
/-- The least. -/
def mn (l : List Nat) : Nat → Nat
  | 0 => l.getD 0 0
  | i + 1 => if FloatKind.f64.format.order (l.getD i 0) (mn l i) = some .lt then l.getD i 0 else mn l i

theorem ord_self_gt (x : Nat) : ¬ FloatKind.f64.format.order x x = some .gt := by
  cases h : nanB x with
  | true => rw [ord_nan h]; simp
  | false => rw [ord_self h]; simp
theorem ord_self_lt (x : Nat) : ¬ FloatKind.f64.format.order x x = some .lt := by
  cases h : nanB x with
  | true => rw [ord_nan h]; simp
  | false => rw [ord_self h]; simp

theorem mx_one (l : List Nat) : mx l 1 = l.getD 0 0 := by
  show (if FloatKind.f64.format.order (l.getD 0 0) (l.getD 0 0) = some .gt then _ else _) = _
  rw [if_neg (ord_self_gt _)]
  rfl
theorem mn_one (l : List Nat) : mn l 1 = l.getD 0 0 := by
  show (if FloatKind.f64.format.order (l.getD 0 0) (l.getD 0 0) = some .lt then _ else _) = _
  rw [if_neg (ord_self_lt _)]
  rfl

theorem mx_yes {l : List Nat} {i : Nat} (hi : i < l.length) (h : FloatKind.f64.format.order l[i] (mx l i) = some .gt) : mx l (i + 1) = l[i] := by
  have e : l.getD i 0 = l[i] := by simp [List.getD, hi]
  show (if FloatKind.f64.format.order (l.getD i 0) (mx l i) = some .gt then l.getD i 0 else mx l i) = _
  rw [e, if_pos h]
theorem mx_no {l : List Nat} {i : Nat} (hi : i < l.length) (h : ¬ FloatKind.f64.format.order l[i] (mx l i) = some .gt) : mx l (i + 1) = mx l i := by
  have e : l.getD i 0 = l[i] := by simp [List.getD, hi]
  show (if FloatKind.f64.format.order (l.getD i 0) (mx l i) = some .gt then l.getD i 0 else mx l i) = _
  rw [e, if_neg h]
theorem mn_yes {l : List Nat} {i : Nat} (hi : i < l.length) (h : FloatKind.f64.format.order l[i] (mn l i) = some .lt) : mn l (i + 1) = l[i] := by
  have e : l.getD i 0 = l[i] := by simp [List.getD, hi]
  show (if FloatKind.f64.format.order (l.getD i 0) (mn l i) = some .lt then l.getD i 0 else mn l i) = _
  rw [e, if_pos h]
theorem mn_no {l : List Nat} {i : Nat} (hi : i < l.length) (h : ¬ FloatKind.f64.format.order l[i] (mn l i) = some .lt) : mn l (i + 1) = mn l i := by
  have e : l.getD i 0 = l[i] := by simp [List.getD, hi]
  show (if FloatKind.f64.format.order (l.getD i 0) (mn l i) = some .lt then l.getD i 0 else mn l i) = _
  rw [e, if_neg h]

/-- No NaN among them. -/
def cleanB (l : List Nat) : Bool := l.all fun x => !nanB x

theorem clean_at {l : List Nat} (h : cleanB l = true) {i : Nat} (hi : i < l.length) : nanB l[i] = false := by
  unfold cleanB at h
  have := List.all_eq_true.1 h l[i] (List.getElem_mem hi)
  simpa using this

theorem clean_no {l : List Nat} {i : Nat} (hi : i < l.length) (h : nanB l[i] = true) : cleanB l = false := by
  cases hc : cleanB l with
  | false => rfl
  | true => rw [clean_at hc hi] at h; cases h

theorem clean_all {l : List Nat} (h : ∀ i (hi : i < l.length), nanB l[i] = false) : cleanB l = true := by
  unfold cleanB
  rw [List.all_eq_true]
  intro x hx
  obtain ⟨i, hi, rfl⟩ := List.mem_iff_getElem.1 hx
  rw [h i hi]
  rfl

theorem mx_clean {l : List Nat} (h : cleanB l = true) (hl : 0 < l.length) (i : Nat) (hi : i ≤ l.length) : nanB (mx l i) = false := by
  induction i with
  | zero =>
    have e : l.getD 0 0 = l[0] := by simp [List.getD, hl]
    show nanB (l.getD 0 0) = false
    rw [e]
    exact clean_at h hl
  | succ i ih =>
    by_cases hg : FloatKind.f64.format.order l[i] (mx l i) = some .gt
    · rw [mx_yes (by omega) hg]; exact clean_at h (by omega)
    · rw [mx_no (by omega) hg]; exact ih (by omega)
theorem mn_clean {l : List Nat} (h : cleanB l = true) (hl : 0 < l.length) (i : Nat) (hi : i ≤ l.length) : nanB (mn l i) = false := by
  induction i with
  | zero =>
    have e : l.getD 0 0 = l[0] := by simp [List.getD, hl]
    show nanB (l.getD 0 0) = false
    rw [e]
    exact clean_at h hl
  | succ i ih =>
    by_cases hg : FloatKind.f64.format.order l[i] (mn l i) = some .lt
    · rw [mn_yes (by omega) hg]; exact clean_at h (by omega)
    · rw [mn_no (by omega) hg]; exact ih (by omega)

/-- Is there an answer? -/
def ovB (l h : List Nat) : Bool := decide (1 ≤ l.length ∧ l.length ≤ 100 ∧ h.length = l.length) && cleanB l && cleanB h && !(FloatKind.f64.format.order (mx l l.length) (mn h h.length) == some .gt)
/-- What Overlap answers. -/
def ovLow (l h : List Nat) : Nat := if ovB l h = true then mx l l.length else 0
def ovHigh (l h : List Nat) : Nat := if ovB l h = true then mn h h.length else 0
end Go.Proofs.Ytpecdbgbiecdgaa
