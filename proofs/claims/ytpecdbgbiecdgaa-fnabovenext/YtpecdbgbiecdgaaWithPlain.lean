/- What Within answers lies within; plain. -/
import Derived.Test.YtpecdbgbiecdgaaFloatOne
namespace Go.Proofs.Ytpecdbgbiecdgaa
open Go.RowKit

def geB (x y : Nat) : Bool := FloatKind.f64.format.order x y == some .gt || FloatKind.f64.format.order x y == some .eq
def leB (x y : Nat) : Bool := FloatKind.f64.format.order x y == some .lt || FloatKind.f64.format.order x y == some .eq

theorem ord_cases {x y : Nat} (hx : nanB x = false) (hy : nanB y = false) : (FloatKind.f64.format.order x y = some .lt ∧ fkey x < fkey y) ∨ (FloatKind.f64.format.order x y = some .eq ∧ fkey x = fkey y) ∨ (FloatKind.f64.format.order x y = some .gt ∧ fkey y < fkey x) := by
  rw [f64_format, order_key hx hy]
  rcases Int.lt_trichotomy (fkey x) (fkey y) with h | h | h
  · exact .inl ⟨by rw [cmp_lt h], h⟩
  · exact .inr (.inl ⟨by rw [cmp_eq h], h⟩)
  · exact .inr (.inr ⟨by rw [cmp_gt h], h⟩)

theorem ge_key {x y : Nat} (hx : nanB x = false) (hy : nanB y = false) : geB x y = decide (fkey y ≤ fkey x) := by
  unfold geB
  rcases ord_cases hx hy with ⟨h, k⟩ | ⟨h, k⟩ | ⟨h, k⟩
  · rw [h, decide_eq_false (by omega)]; rfl
  · rw [h, decide_eq_true (by omega)]; rfl
  · rw [h, decide_eq_true (by omega)]; rfl

theorem le_key {x y : Nat} (hx : nanB x = false) (hy : nanB y = false) : leB x y = decide (fkey x ≤ fkey y) := by
  unfold leB
  rcases ord_cases hx hy with ⟨h, k⟩ | ⟨h, k⟩ | ⟨h, k⟩
  · rw [h, decide_eq_true (by omega)]; rfl
  · rw [h, decide_eq_true (by omega)]; rfl
  · rw [h, decide_eq_false (by omega)]; rfl

theorem lt_key {x y : Nat} (hx : nanB x = false) (hy : nanB y = false) : FloatKind.f64.format.order x y = some .lt ↔ fkey x < fkey y := by
  rcases ord_cases hx hy with ⟨h, k⟩ | ⟨h, k⟩ | ⟨h, k⟩ <;> rw [h] <;> simp <;> omega

theorem gt_key {x y : Nat} (hx : nanB x = false) (hy : nanB y = false) : FloatKind.f64.format.order x y = some .gt ↔ fkey y < fkey x := by
  rcases ord_cases hx hy with ⟨h, k⟩ | ⟨h, k⟩ | ⟨h, k⟩ <;> rw [h] <;> simp <;> omega

theorem ge_nan {x : Nat} (y : Nat) (h : nanB x = true) : geB x y = false := by
  unfold geB
  rw [ord_nan h]
  rfl

theorem wit_bounds {x low high : Nat} (h1 : nanB low = false) (h2 : nanB high = false) (h3 : ¬ FloatKind.f64.format.order low high = some .gt) : witO x low high = if nanB x = true ∨ FloatKind.f64.format.order x low = some .lt then some low else if FloatKind.f64.format.order x high = some .gt then some high else some x := by
  unfold witO
  rw [if_neg (by rw [h1, h2]; simp [h3])]

theorem wit_in {y low high : Nat} (h1 : nanB low = false) (h2 : nanB high = false) (h3 : ¬ FloatKind.f64.format.order low high = some .gt) (hy : nanB y = false) (k1 : fkey low ≤ fkey y) (k2 : fkey y ≤ fkey high) : witO y low high = some y := by
  rw [wit_bounds h1 h2 h3, if_neg, if_neg]
  · rw [gt_key hy h2]; omega
  · rw [hy, lt_key hy h1]; simp; omega

theorem wit_some {x low high y : Nat} (h : witO x low high = some y) : nanB low = false ∧ nanB high = false ∧ ¬ FloatKind.f64.format.order low high = some .gt ∧ nanB y = false ∧ geB y low = true ∧ leB y high = true ∧ ((geB x low && leB x high) = false ∨ y = x) ∧ witO y low high = some y := by
  unfold witO at h
  by_cases hb : nanB low = true ∨ nanB high = true ∨ FloatKind.f64.format.order low high = some .gt
  · rw [if_pos hb] at h; cases h
  · rw [if_neg hb] at h
    have h1 : nanB low = false := by cases k : nanB low with | false => rfl | true => exact absurd (.inl k) hb
    have h2 : nanB high = false := by cases k : nanB high with | false => rfl | true => exact absurd (.inr (.inl k)) hb
    have h3 : ¬ FloatKind.f64.format.order low high = some .gt := fun k => hb (.inr (.inr k))
    have hk : fkey low ≤ fkey high := by have := mt (gt_key h1 h2).2 h3; omega
    by_cases hl : nanB x = true ∨ FloatKind.f64.format.order x low = some .lt
    · rw [if_pos hl] at h
      injection h with h
      subst h
      refine ⟨h1, h2, h3, h1, ?_, ?_, .inl ?_, wit_in h1 h2 h3 h1 (Int.le_refl _) hk⟩
      · rw [ge_key h1 h1]; simp
      · rw [le_key h1 h2]; simpa using hk
      · cases hx : nanB x with
        | true => rw [ge_nan _ hx]; rfl
        | false =>
          rcases hl with hl | hl
          · rw [hx] at hl; cases hl
          · rw [ge_key hx h1, decide_eq_false (by have := (lt_key hx h1).1 hl; omega)]; rfl
    · rw [if_neg hl] at h
      have hx : nanB x = false := by cases k : nanB x with | false => rfl | true => exact absurd (.inl k) hl
      have kl : fkey low ≤ fkey x := by have := mt (lt_key hx h1).2 (fun k => hl (.inr k)); omega
      by_cases hg : FloatKind.f64.format.order x high = some .gt
      · rw [if_pos hg] at h
        injection h with h
        subst h
        refine ⟨h1, h2, h3, h2, ?_, ?_, .inl ?_, wit_in h1 h2 h3 h2 hk (Int.le_refl _)⟩
        · rw [ge_key h2 h1]; simpa using hk
        · rw [le_key h2 h2]; simp
        · rw [le_key hx h2, decide_eq_false (by have := (gt_key hx h2).1 hg; omega)]; simp
      · rw [if_neg hg] at h
        injection h with h
        subst h
        have kh : fkey x ≤ fkey high := by have := mt (gt_key hx h2).2 hg; omega
        exact ⟨h1, h2, h3, hx, by rw [ge_key hx h1]; simpa using kl, by rw [le_key hx h2]; simpa using kh, .inr rfl, wit_in h1 h2 h3 hx kl kh⟩

theorem wit_none {x low high : Nat} (h : witO x low high = none) : nanB low = true ∨ nanB high = true ∨ FloatKind.f64.format.order low high = some .gt := by
  unfold witO at h
  by_cases hb : nanB low = true ∨ nanB high = true ∨ FloatKind.f64.format.order low high = some .gt
  · exact hb
  · rw [if_neg hb] at h
    split at h
    · cases h
    · split at h <;> cases h
end Go.Proofs.Ytpecdbgbiecdgaa
