/- Half of a number and half of the next one, added up: one of the two; plain. -/
import Derived.Test.YthpnlhbfginkjaaAbovePlain
import Derived.Test.YthpnlhbfginkjaaTickPlain
namespace Go.Proofs.Ythpnlhbfginkjaa
open Ieee
open Go.RowKit

theorem rnd_one (m : Nat) : 2 * rnd m 1 ≤ m + 1 ∧ m ≤ 2 * rnd m 1 + 1 := by
  unfold rnd
  rw [Nat.pow_one]
  have h1 : m % 2 < 2 := Nat.mod_lt _ (by decide)
  have h2 := Nat.div_add_mod m 2
  by_cases h : m % 2 = 0
  · rw [h] at h2 ⊢
    simp
    omega
  · have h3 : m % 2 = 1 := by omega
    rw [h3] at h2 ⊢
    have hb : ∀ t : Bool, t.toNat ≤ 1 := fun t => by cases t <;> decide
    have := hb (decide (2 < 2 * 1) || ((2 : Nat) == 2 * 1 && m / 2 % 2 == 1))
    omega

/-- The rung of half a number. -/
theorem half_rung {x m e : Nat} (hm : m < 9007199254740992) (hv : m * 2 ^ e = vr x) (hx : x < 9218868437227405312) : rung (vr x) (-1075) < 9218868437227405312 ∧ 2 * vr (rung (vr x) (-1075)) ≤ vr x + 1 ∧ vr x ≤ 2 * vr (rung (vr x) (-1075)) + 1 := by
  have es := rung_scale m e (-1075 + (e : Int))
  rw [hv, show -1075 + (e : Int) - (e : Int) = -1075 by omega] at es
  have hup : rung (vr x) (-1075) ≤ rung (vr x) (-1074) := by
    have h1 := rung_mono (Nat.le_mul_of_pos_right (vr x) (show 0 < 2 by decide)) (-1075)
    rw [rung_double] at h1
    exact h1
  have hfin : rung (vr x) (-1074) < 9218868437227405312 := by
    have hb : x < 9223372036854775808 := by omega
    have hf : finB x = true := by unfold finB; rw [rg_small hb]; exact decide_eq_true hx
    obtain ⟨n, f, h1, h2⟩ := read_fin hf
    have h3 := rung_exact hf h1
    rw [rg_small hb] at h2 h3
    have h4 := rung_scale n f (-1074 + (f : Int))
    rw [h2, show -1074 + (f : Int) - (f : Int) = -1074 by omega, h3] at h4
    rw [h4]
    exact hx
  have hf2 : rung (vr x) (-1075) < 9218868437227405312 := by omega
  refine ⟨hf2, ?_⟩
  rcases Nat.eq_zero_or_pos e with he | he
  · subst he
    rw [Nat.pow_zero, Nat.mul_one] at hv
    rw [← hv] at hf2 ⊢
    by_cases h0 : m = 0
    · subst h0
      rw [rung_zero, vr_zero]
      omega
    · have hL := log_le h0 hm
      have hl : lastP m (-1075) = -1074 := by unfold lastP; omega
      have hr : rung m (-1075) = rnd m 1 := by
        have := rung_eq h0 (-1075)
        rw [hl] at this
        rw [this]
        show min (0 * 4503599627370496 + rnd (m * 2 ^ 0) 1) _ = _
        rw [Nat.zero_mul, Nat.zero_add, Nat.pow_zero, Nat.mul_one]
        have := (rnd_one m).1
        exact Nat.min_eq_left (by omega)
      obtain ⟨k1, k2⟩ := rnd_one m
      rw [hr]
      have hv2 : vr (rnd m 1) = rnd m 1 := by
        have := vr_form (E := 0) (K := rnd m 1) (by omega) (.inr rfl)
        rw [Nat.zero_mul, Nat.zero_add, Nat.pow_zero, Nat.mul_one] at this
        exact this
      rw [hv2]
      omega
  · obtain ⟨d, rfl⟩ : ∃ d, e = d + 1 := ⟨e - 1, by omega⟩
    rw [es] at hf2 ⊢
    have := vr_rung (Nat.le_of_lt hm) (p := -1075 + ((d + 1 : Nat) : Int)) (by omega) hf2
    rw [this, show (-1075 + ((d + 1 : Nat) : Int) + 1074).toNat = d by omega, ← hv, Nat.pow_succ]
    rw [show m * (2 ^ d * 2) = 2 * (m * 2 ^ d) by rw [Nat.mul_comm (2 ^ d) 2, ← Nat.mul_assoc, Nat.mul_comm m 2, Nat.mul_assoc]]
    omega

theorem read_half : Ieee.double.read 4602678819172646912 = .number false 4503599627370496 (-53) := by rfl

/-- Half a number, with its sign. -/
theorem half_ival {x : Nat} (hf : finB x = true) : ∃ a, floatBits .mul .f64 x 4602678819172646912 = some a ∧ finB a = true ∧ 2 * ival a ≤ ival x + 1 ∧ ival x ≤ 2 * ival a + 1 := by
  have hlt : rg x < 9218868437227405312 := by unfold finB at hf; exact of_decide_eq_true hf
  obtain ⟨m, e, h1, h2⟩ := read_fin hf
  have hm : m < 9007199254740992 := by
    unfold Format.read at h1
    rw [binade64, sign64, inf64, least64] at h1
    have g1 := Nat.mod_lt (rg x) (show 0 < 4503599627370496 by decide)
    by_cases g : rg x < 4503599627370496
    · unfold rg at g g1
      simp only [g, if_true] at h1
      injection h1 with _ a _
      omega
    · unfold rg at g g1 hlt
      simp only [g, hlt, if_true, if_false] at h1
      injection h1 with _ a _
      omega
  have hvv : vr (rg x) = vr (rg x) := rfl
  obtain ⟨k1, k2, k3⟩ := half_rung (x := rg x) hm h2 hlt
  have hb : floatBits .mul .f64 x 4602678819172646912 = some (Ieee.double.nearest (sgn x) (m * 4503599627370496) (-1074 + (e : Int) + -53)) := by
    unfold floatBits
    rw [f64_format]
    show ((Ieee.double.read x).product (Ieee.double.read 4602678819172646912)).map Ieee.double.write = _
    rw [h1, read_half]
    show some (Ieee.double.nearest (sgn x ^^ false) _ _) = _
    rw [Bool.xor_false]
  have e1 := rung_scale m 52 (-1075 + (e : Int))
  have e2 := rung_scale m e (-1075 + (e : Int))
  rw [show (2 : Nat) ^ 52 = 4503599627370496 by decide, show -1075 + (e : Int) - ((52 : Nat) : Int) = -1074 + (e : Int) + -53 by omega] at e1
  rw [h2, show -1075 + (e : Int) - (e : Int) = -1075 by omega] at e2
  have er : rung (m * 4503599627370496) (-1074 + (e : Int) + -53) = rung (vr (rg x)) (-1075) := by rw [e1, e2]
  have hs := sgn_nearest (sgn x) (m * 4503599627370496) (-1074 + (e : Int) + -53)
  have hr := rg_nearest (sgn x) (m * 4503599627370496) (-1074 + (e : Int) + -53)
  rw [er] at hr
  refine ⟨_, hb, ?_, ?_⟩
  · unfold finB
    rw [hr]
    exact decide_eq_true k1
  · unfold ival
    rw [hs, hr]
    generalize vr (rung (vr (rg x)) (-1075)) = A at *
    generalize vr (rg x) = V at *
    cases sgn x <;> simp only [if_true, if_false, Bool.false_eq_true] <;> omega

/-- A number's own key. -/
theorem srung_ival {x : Nat} (hf : finB x = true) : srung (ival x) = fkey x := by
  obtain ⟨n, f, h1, h2⟩ := read_fin hf
  have h3 := rung_exact hf h1
  have h4 := rung_scale n f (-1074 + (f : Int))
  rw [h2, show -1074 + (f : Int) - (f : Int) = -1074 by omega, h3] at h4
  unfold srung ival fkey
  cases sgn x <;> simp only [if_true, if_false, Bool.false_eq_true]
  · rw [if_neg (by omega), Int.natAbs_natCast, h4]
  · by_cases h0 : vr (rg x) = 0
    · have hz : rg x = 0 := by
        rcases Nat.eq_zero_or_pos (rg x) with h | h
        · exact h
        · have := vr_lt h; rw [vr_zero] at this; omega
      rw [hz, vr_zero]
      simp [rung_zero]
    · rw [if_pos (by omega), Int.natAbs_neg, Int.natAbs_natCast, h4]

/-- THE HALF WAY between a number and a greater one lies between them. -/
theorem mid_key {x y a b : Nat} (hx : finB x = true) (hy : finB y = true) (h : ival x < ival y) (ha : floatBits .mul .f64 x 4602678819172646912 = some a) (hb : floatBits .mul .f64 y 4602678819172646912 = some b) : ∃ r, floatBits .add .f64 a b = some r ∧ nanB r = false ∧ fkey x ≤ fkey r ∧ fkey r ≤ fkey y := by
  obtain ⟨a2, ha2, fa, a3, a4⟩ := half_ival hx
  obtain ⟨b2, hb2, fb, b3, b4⟩ := half_ival hy
  rw [ha] at ha2
  rw [hb] at hb2
  injection ha2 with ha2
  injection hb2 with hb2
  subst ha2; subst hb2
  obtain ⟨r, hr, hn, hk⟩ := add_key fa fb
  refine ⟨r, hr, hn, ?_, ?_⟩
  · rw [hk, ← srung_ival hx]
    exact srung_mono (by omega)
  · rw [hk, ← srung_ival hy]
    exact srung_mono (by omega)
end Go.Proofs.Ythpnlhbfginkjaa
