/- Halving in two pieces, and what is halved gets no greater; plain. -/
import Derived.Test.YthpnlhbfginkjaaFloatRound
import Derived.Test.YthpnlhbfginkjaaFloatTwo
import Derived.Test.YthpnlhbfginkjaaDrawFloat
namespace Go.Proofs.Ythpnlhbfginkjaa
open Ieee
open Go.RowKit

theorem halv_split (x : Nat) (k j : Nat) {a : Nat} (h : halvO x k = some a) : halvO x (k + j) = halvO a j := by
  induction j with
  | zero => exact h
  | succ j ih => show fop .mul (halvO x (k + j)) _ = fop .mul (halvO a j) _; rw [ih]

theorem halv_none (x : Nat) (k j : Nat) (h : halvO x k = none) : halvO x (k + j) = none := by
  induction j with
  | zero => exact h
  | succ j ih => show fop .mul (halvO x (k + j)) _ = none; rw [ih]; rfl

theorem halv_nan {z : Nat} (h : nanB z = true) : ∀ j, halvO z (j + 1) = none := by
  intro j
  induction j with
  | zero => exact bits_nan_left .mul _ h
  | succ j ih => show fop .mul (halvO z (j + 1)) _ = none; rw [ih]; rfl

theorem halv_both {x z1 z : Nat} (k j : Nat) (h1 : FS (halvO x k) z1) (h2 : FS (halvO z1 j) z) : FS (halvO x (k + j)) z := by
  cases h : halvO x k with
  | some a =>
    rw [h] at h1
    obtain rfl : z1 = a := h1
    rw [halv_split x k j h]
    exact h2
  | none =>
    rw [h] at h1
    rw [halv_none x k j h]
    cases j with
    | zero =>
      obtain rfl : z = z1 := h2
      exact h1
    | succ j =>
      rw [halv_nan h1 j] at h2
      exact h2

/-- What is halved gets no greater. -/
theorem half_le {x y : Nat} (h : floatBits .mul .f64 x 4602678819172646912 = some y) : rg y ≤ rg x := by
  have hn : nanB x = false := by
    cases k : nanB x with
    | false => rfl
    | true => rw [bits_nan_left _ _ k] at h; cases h
  have hh : Ieee.double.read 4602678819172646912 = .number false 4503599627370496 (-53) := by decide
  unfold floatBits at h
  rw [f64_format] at h
  have h : ((Ieee.double.read x).product (Ieee.double.read 4602678819172646912)).map Ieee.double.write = some y := h
  rw [hh] at h
  rcases read_some hn with ⟨m, e, g1, g2, g3⟩ | g1
  · have hx := rung_exact g3 g1
    rw [g1] at h
    injection h with h
    rw [← h]
    show rg (Ieee.double.nearest _ (m * 4503599627370496) (-1074 + (e : Int) + -53)) ≤ _
    rw [rg_nearest, ← hx]
    have h1 : rung (m * 2 ^ 53) (-1074 + (e : Int) - (53 : Nat)) = rung m (-1074 + (e : Int)) := rung_scale m 53 _
    have h2 : -1074 + (e : Int) - (53 : Nat) = -1074 + (e : Int) + -53 := by omega
    rw [h2] at h1
    rw [← h1]
    have h3 : (2 : Nat) ^ 53 = 9007199254740992 := by decide
    rw [h3]
    exact rung_mono (Nat.mul_le_mul_left m (by decide)) _
  · have hr : rg x = 9218868437227405312 := by
      rcases fin_of hn with h4 | h4
      · obtain ⟨m, e, h5, _⟩ := read_fin h4
        rw [h5] at g1
        cases g1
      · exact h4
    rw [g1] at h
    injection h with h
    rw [← h, hr]
    show rg (Ieee.double.word _ _) ≤ _
    rw [inf64, rg_word _ _ (by decide)]
    exact Nat.le_refl _

theorem halv_le {x : Nat} : ∀ (n : Nat) {y : Nat}, halvO x n = some y → nanB y = false → rg y ≤ rg x := by
  intro n
  induction n with
  | zero =>
    intro y h _
    injection h with h
    rw [h]
    exact Nat.le_refl _
  | succ n ih =>
    intro y h hy
    have h : fop .mul (halvO x n) (some 4602678819172646912) = some y := h
    cases hh : halvO x n with
    | none => rw [hh] at h; cases h
    | some z =>
      rw [hh] at h
      have h : floatBits .mul .f64 z 4602678819172646912 = some y := h
      have hz : nanB z = false := by
        cases k : nanB z with
        | false => rfl
        | true => rw [bits_nan_left _ _ k] at h; cases h
      exact Nat.le_trans (half_le h) (ih hh hz)

/-- The size of a number. -/
def sizF (x : Nat) : Nat := if FloatKind.f64.format.order x 0 = some .lt then Op.negFloat .f64 x else x

theorem neg_parts (x : Nat) : rg (Op.negFloat .f64 x) = rg x ∧ sgn (Op.negFloat .f64 x) = !sgn x := by
  have h1 : Op.negFloat .f64 x = x ^^^ 9223372036854775808 := rfl
  have h2 : rg (Op.negFloat .f64 x) = rg x := by
    unfold rg
    rw [h1]
    have := Nat.xor_mod_two_pow (a := x) (b := 9223372036854775808) (n := 63)
    have e : (2 : Nat) ^ 63 = 9223372036854775808 := by decide
    rw [e] at this
    rw [this, Nat.mod_self, Nat.xor_zero]
  refine ⟨h2, ?_⟩
  have h3 : sgn (Op.negFloat .f64 x) = (Op.negFloat .f64 x).testBit 63 := by
    unfold sgn
    rw [Nat.testBit_eq_decide_div_mod_eq]
    have e : (2 : Nat) ^ 63 = 9223372036854775808 := by decide
    rw [e, Bool.eq_iff_iff]
    simp
  have h4 : sgn x = x.testBit 63 := by
    unfold sgn
    rw [Nat.testBit_eq_decide_div_mod_eq]
    have e : (2 : Nat) ^ 63 = 9223372036854775808 := by decide
    rw [e, Bool.eq_iff_iff]
    simp
  rw [h3, h4, h1, Nat.testBit_xor]
  have e : (9223372036854775808 : Nat).testBit 63 = true := by decide
  rw [e]
  simp

theorem siz_key {x : Nat} (hn : nanB x = false) : nanB (sizF x) = false ∧ fkey (sizF x) = rg x := by
  unfold sizF
  by_cases h : FloatKind.f64.format.order x 0 = some .lt
  · rw [if_pos h]
    obtain ⟨h1, h2⟩ := neg_parts x
    have hs : sgn x = true := by
      by_cases hz : rg x = 0
      · have := (zero_iff hn).2 hz
        rw [this] at h
        cases h
      · have := lt_zero hn hz
        rw [h] at this
        exact this.symm
    refine ⟨by unfold nanB at *; rw [h1]; exact hn, ?_⟩
    unfold fkey
    rw [h1, h2, hs]
    rfl
  · rw [if_neg h]
    refine ⟨hn, ?_⟩
    by_cases hz : rg x = 0
    · unfold fkey
      rw [hz]
      cases sgn x <;> rfl
    · have h1 := lt_zero hn hz
      have hs : sgn x = false := by
        rw [← h1]
        simpa using h
      unfold fkey
      rw [hs]
      rfl

theorem siz_nan {x : Nat} (hn : nanB x = true) : sizF x = x := by
  unfold sizF
  rw [ord_nan hn, if_neg (by simp)]

/-- Decaying makes nothing greater. -/
theorem siz_le {x y n : Nat} (h : FS (halvO x n) y) : (FloatKind.f64.format.order (sizF y) (sizF x) == some .gt) = false := by
  cases hyn : nanB y with
  | true => rw [siz_nan hyn, ord_nan hyn]; rfl
  | false =>
    cases hxn : nanB x with
    | true => rw [siz_nan hxn, ord_nan' hxn]; rfl
    | false =>
      cases hh : halvO x n with
      | none =>
        rw [hh] at h
        rw [show nanB y = true from h] at hyn
        cases hyn
      | some z =>
        rw [hh] at h
        obtain rfl : y = z := h
        have hle := halv_le n hh hyn
        obtain ⟨a1, a2⟩ := siz_key hxn
        obtain ⟨b1, b2⟩ := siz_key hyn
        rw [f64_format, order_key b1 a1, b2, a2]
        rcases Int.lt_or_eq_of_le (show (rg y : Int) ≤ rg x by omega) with g | g
        · rw [cmp_lt g]; rfl
        · rw [cmp_eq g]; rfl
end Go.Proofs.Ythpnlhbfginkjaa
