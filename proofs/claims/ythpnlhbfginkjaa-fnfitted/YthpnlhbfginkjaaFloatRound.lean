/- Rounding: it rises with the number, it does not hang on how a number is written, and it leaves a float64 as it is; plain. -/
import Derived.Test.YthpnlhbfginkjaaFloatNan
namespace Go.Proofs.Ythpnlhbfginkjaa
open Ieee
open Go.RowKit

/-- A whole number by a power of two, to the nearest, of two the even one. -/
def rnd (a d : Nat) : Nat := a / 2 ^ d + (decide (2 ^ d < 2 * (a % 2 ^ d)) || (2 ^ d == 2 * (a % 2 ^ d) && a / 2 ^ d % 2 == 1)).toNat

theorem cut_rnd (s : Bool) (a d : Nat) : Toward.even.cut s a d = rnd a d := by
  unfold Toward.cut
  dsimp only
  rw [Nat.one_shiftLeft]
  by_cases h : d ≤ a.log2 + 2
  · rw [Nat.min_eq_left h]
    rfl
  · have hm : min d (a.log2 + 2) = a.log2 + 2 := by omega
    rw [hm]
    have h1 : a < 2 ^ (a.log2 + 1) := Nat.lt_log2_self
    have h2 : 2 ^ (a.log2 + 2) = 2 * 2 ^ (a.log2 + 1) := by rw [Nat.pow_succ, Nat.mul_comm]
    have h3 : 2 ^ (a.log2 + 2) ≤ 2 ^ d := Nat.pow_le_pow_right (by decide) (by omega)
    unfold rnd
    rw [Nat.div_eq_of_lt (by omega), Nat.mod_eq_of_lt (by omega), Nat.div_eq_of_lt (a := a) (b := 2 ^ d) (by omega), Nat.mod_eq_of_lt (a := a) (b := 2 ^ d) (by omega)]
    have g1 : decide (2 ^ (a.log2 + 2) < 2 * a) = false := decide_eq_false (by omega)
    have g2 : decide (2 ^ d < 2 * a) = false := decide_eq_false (by omega)
    rw [g1, g2]
    simp

theorem rnd_mono {a b : Nat} (d : Nat) (h : a ≤ b) : rnd a d ≤ rnd b d := by
  unfold rnd
  have hp : 0 < 2 ^ d := Nat.two_pow_pos d
  generalize 2 ^ d = G at *
  have ha := Nat.div_add_mod a G
  have hb := Nat.div_add_mod b G
  have la := Nat.mod_lt a hp
  have lb := Nat.mod_lt b hp
  have hq : a / G ≤ b / G := Nat.div_le_div_right h
  rcases Nat.lt_or_ge (a / G) (b / G) with h1 | h1
  · have h2 : ∀ t : Bool, t.toNat ≤ 1 := fun t => by cases t <;> decide
    have := h2 (decide (G < 2 * (a % G)) || (G == 2 * (a % G) && a / G % 2 == 1))
    omega
  · have he : a / G = b / G := by omega
    rw [he] at ha ⊢
    have hr : a % G ≤ b % G := by omega
    generalize b / G = q at *
    generalize a % G = x at *
    generalize b % G = y at *
    apply Nat.add_le_add_left
    by_cases c1 : G < 2 * x
    · have c2 : decide (G < 2 * y) = true := decide_eq_true (by omega)
      rw [c2]
      cases (decide (G < 2 * x) || (G == 2 * x && q % 2 == 1)) <;> simp
    · have c1' : decide (G < 2 * x) = false := decide_eq_false c1
      rw [c1']
      by_cases c3 : G = 2 * x
      · by_cases c4 : G < 2 * y
        · have c2 : decide (G < 2 * y) = true := decide_eq_true c4
          rw [c2]
          cases (false || (G == 2 * x && q % 2 == 1)) <;> simp
        · have c5 : x = y := by omega
          rw [c5]
          have c2 : decide (G < 2 * y) = false := decide_eq_false c4
          rw [c2]
          exact Nat.le_refl _
      · have c3' : (G == 2 * x) = false := by simpa using c3
        rw [c3']
        simp

theorem rnd_low (a d : Nat) : a / 2 ^ d ≤ rnd a d := Nat.le_add_right _ _
theorem rnd_high (a d : Nat) : rnd a d ≤ a / 2 ^ d + 1 := by
  unfold rnd
  apply Nat.add_le_add_left
  cases (decide (2 ^ d < 2 * (a % 2 ^ d)) || (2 ^ d == 2 * (a % 2 ^ d) && a / 2 ^ d % 2 == 1)) <;> decide

theorem rnd_zero (a : Nat) : rnd a 0 = a := by
  unfold rnd
  simp [Nat.mod_one]

theorem rnd_scale (a d j : Nat) : rnd (a * 2 ^ j) (d + j) = rnd a d := by
  unfold rnd
  have hj : 0 < 2 ^ j := Nat.two_pow_pos j
  have e1 : a * 2 ^ j / 2 ^ (d + j) = a / 2 ^ d := by rw [Nat.pow_add]; exact Nat.mul_div_mul_right _ _ hj
  have e2 : a * 2 ^ j % 2 ^ (d + j) = a % 2 ^ d * 2 ^ j := by rw [Nat.pow_add]; exact Nat.mul_mod_mul_right _ _ _
  rw [e1, e2, Nat.pow_add]
  have e3 : decide (2 ^ d * 2 ^ j < 2 * (a % 2 ^ d * 2 ^ j)) = decide (2 ^ d < 2 * (a % 2 ^ d)) := by
    rw [← Nat.mul_assoc]
    exact decide_eq_decide.2 ⟨fun h => Nat.lt_of_mul_lt_mul_right h, fun h => Nat.mul_lt_mul_of_pos_right h hj⟩
  have e4 : (2 ^ d * 2 ^ j == 2 * (a % 2 ^ d * 2 ^ j)) = (2 ^ d == 2 * (a % 2 ^ d)) := by
    rw [← Nat.mul_assoc, Bool.eq_iff_iff, beq_iff_eq, beq_iff_eq]
    exact ⟨fun h => Nat.eq_of_mul_eq_mul_right hj h, fun h => congrArg (· * 2 ^ j) h⟩
  rw [e3, e4]

/-- The place of the last digit that is kept. -/
def lastP (m : Nat) (p : Int) : Int := max (p + m.log2 - 52) (-1074)

theorem frac64 : Ieee.double.fractionBits = 52 := rfl

/-- The rung of a number that is no nought. -/
theorem rung_eq {m : Nat} (h : m ≠ 0) (p : Int) : rung m p = min ((lastP m p + 1074).toNat * 4503599627370496 + rnd (m * 2 ^ (p - lastP m p).toNat) (lastP m p - p).toNat) 9218868437227405312 := by
  unfold rung Format.nearest
  simp only [h, if_false]
  rw [least64, binade64, inf64, frac64, cut_rnd, Nat.shiftLeft_eq]
  have e : max (p + (m.log2 : Int) - ((52 : Nat) : Int)) (-1074) = lastP m p := rfl
  rw [e, rg_word _ _ (Nat.lt_of_le_of_lt (Nat.min_le_right _ _) (by decide))]
  have e2 : (lastP m p - -1074) = lastP m p + 1074 := by omega
  rw [e2]

theorem rung_zero (p : Int) : rung 0 p = 0 := by
  unfold rung Format.nearest
  rw [if_pos rfl]
  exact rg_word _ _ (by decide)

theorem last_ge (m : Nat) (p : Int) : -1074 ≤ lastP m p := by unfold lastP; omega

/-- What is kept has 53 digits at most. -/
theorem kept_le {m : Nat} (_h : m ≠ 0) (p : Int) : rnd (m * 2 ^ (p - lastP m p).toNat) (lastP m p - p).toNat ≤ 9007199254740992 := by
  have h1 : m < 2 ^ (m.log2 + 1) := Nat.lt_log2_self
  have hl : p + m.log2 - 52 ≤ lastP m p := by unfold lastP; omega
  generalize lastP m p = l at *
  have e53 : (9007199254740992 : Nat) = 2 ^ 53 := by decide
  rcases Int.le_total l p with hp | hp
  · have e1 : (l - p).toNat = 0 := by omega
    rw [e1, rnd_zero, e53]
    have h2 : m * 2 ^ (p - l).toNat < 2 ^ (m.log2 + 1) * 2 ^ (p - l).toNat := Nat.mul_lt_mul_of_pos_right h1 (Nat.two_pow_pos _)
    rw [← Nat.pow_add] at h2
    have h3 : 2 ^ (m.log2 + 1 + (p - l).toNat) ≤ 2 ^ 53 := Nat.pow_le_pow_right (by decide) (by omega)
    omega
  · have e1 : (p - l).toNat = 0 := by omega
    rw [e1, Nat.pow_zero, Nat.mul_one]
    have h2 := rnd_high m (l - p).toNat
    have h3 : m / 2 ^ (l - p).toNat < 2 ^ 53 := by
      rw [Nat.div_lt_iff_lt_mul (Nat.two_pow_pos _), ← Nat.pow_add]
      exact Nat.lt_of_lt_of_le h1 (Nat.pow_le_pow_right (by decide) (by omega))
    rw [e53]
    omega

/-- Above the least place it has 53 digits. -/
theorem kept_ge {m : Nat} (h : m ≠ 0) (p : Int) (hl : -1074 < lastP m p) : 4503599627370496 ≤ rnd (m * 2 ^ (p - lastP m p).toNat) (lastP m p - p).toNat := by
  have h1 : 2 ^ m.log2 ≤ m := Nat.log2_self_le h
  have hl2 : lastP m p = p + m.log2 - 52 := by unfold lastP at hl ⊢; omega
  generalize lastP m p = l at *
  have e52 : (4503599627370496 : Nat) = 2 ^ 52 := by decide
  refine Nat.le_trans ?_ (rnd_low _ _)
  rw [Nat.le_div_iff_mul_le (Nat.two_pow_pos _), e52, ← Nat.pow_add]
  have h2 : 2 ^ m.log2 * 2 ^ (p - l).toNat ≤ m * 2 ^ (p - l).toNat := Nat.mul_le_mul_right _ h1
  rw [← Nat.pow_add] at h2
  have e : 52 + (l - p).toNat = m.log2 + (p - l).toNat := by omega
  rw [e]
  exact h2

/-- ROUNDING RISES. -/
theorem rung_mono {m n : Nat} (h : m ≤ n) (p : Int) : rung m p ≤ rung n p := by
  by_cases hm : m = 0
  · rw [hm, rung_zero]; exact Nat.zero_le _
  · have hn : n ≠ 0 := by omega
    rw [rung_eq hm, rung_eq hn]
    have hlog : m.log2 ≤ n.log2 := (Nat.le_log2 hn).2 (Nat.le_trans (Nat.log2_self_le hm) h)
    have hll : lastP m p ≤ lastP n p := by unfold lastP; omega
    have hg := last_ge m p
    have hkm := kept_le hm p
    have hx : (lastP m p + 1074).toNat * 4503599627370496 + rnd (m * 2 ^ (p - lastP m p).toNat) (lastP m p - p).toNat ≤ (lastP n p + 1074).toNat * 4503599627370496 + rnd (n * 2 ^ (p - lastP n p).toNat) (lastP n p - p).toNat := by
      rcases Int.lt_or_le (lastP m p) (lastP n p) with hlt | hle
      · have hkn := kept_ge hn p (by omega)
        have h3 : (lastP m p + 1074).toNat + 1 ≤ (lastP n p + 1074).toNat := by omega
        have h4 : ((lastP m p + 1074).toNat + 1) * 4503599627370496 ≤ (lastP n p + 1074).toNat * 4503599627370496 := Nat.mul_le_mul_right _ h3
        omega
      · have he : lastP m p = lastP n p := by omega
        rw [he]
        exact Nat.add_le_add_left (rnd_mono _ (Nat.mul_le_mul_right _ h)) _
    exact Nat.le_min.2 ⟨Nat.le_trans (Nat.min_le_left _ _) hx, Nat.min_le_right _ _⟩

theorem log2_scale {m : Nat} (h : m ≠ 0) (k : Nat) : (m * 2 ^ k).log2 = m.log2 + k := by
  have hp : m * 2 ^ k ≠ 0 := Nat.mul_ne_zero h (Nat.pos_iff_ne_zero.1 (Nat.two_pow_pos k))
  have h1 := Nat.log2_self_le h
  have h2 : m < 2 ^ (m.log2 + 1) := Nat.lt_log2_self
  refine (Nat.log2_eq_iff hp).2 ⟨?_, ?_⟩
  · rw [Nat.pow_add]; exact Nat.mul_le_mul_right _ h1
  · rw [show m.log2 + k + 1 = m.log2 + 1 + k by omega, Nat.pow_add]; exact Nat.mul_lt_mul_of_pos_right h2 (Nat.two_pow_pos k)

/-- IT DOES NOT HANG ON HOW A NUMBER IS WRITTEN. -/
theorem rung_scale (m k : Nat) (p : Int) : rung (m * 2 ^ k) (p - k) = rung m p := by
  by_cases hm : m = 0
  · rw [hm, Nat.zero_mul, rung_zero, rung_zero]
  · have hp : m * 2 ^ k ≠ 0 := Nat.mul_ne_zero hm (Nat.pos_iff_ne_zero.1 (Nat.two_pow_pos k))
    rw [rung_eq hm, rung_eq hp]
    have hl : lastP (m * 2 ^ k) (p - k) = lastP m p := by unfold lastP; rw [log2_scale hm]; omega
    rw [hl]
    generalize lastP m p = l
    have hk : rnd (m * 2 ^ k * 2 ^ (p - k - l).toNat) (l - (p - k)).toNat = rnd (m * 2 ^ (p - l).toNat) (l - p).toNat := by
      rcases Int.le_total l (p - k) with h1 | h1
      · have e1 : (l - (p - k)).toNat = 0 := by omega
        have e2 : (l - p).toNat = 0 := by omega
        have e3 : (p - l).toNat = k + (p - k - l).toNat := by omega
        rw [e1, e2, e3, Nat.pow_add, Nat.mul_assoc]
      · have e1 : (p - k - l).toNat = 0 := by omega
        rw [e1, Nat.pow_zero, Nat.mul_one]
        rcases Int.le_total l p with h2 | h2
        · have e2 : (l - p).toNat = 0 := by omega
          have e3 : k = (p - l).toNat + (l - (p - k)).toNat := by omega
          have e4 : m * 2 ^ k = m * 2 ^ (p - l).toNat * 2 ^ (l - (p - k)).toNat := by
            rw [Nat.mul_assoc, ← Nat.pow_add, ← e3]
          rw [e2, e4]
          have := rnd_scale (m * 2 ^ (p - l).toNat) 0 (l - (p - k)).toNat
          rw [Nat.zero_add] at this
          exact this
        · have e2 : (p - l).toNat = 0 := by omega
          have e3 : (l - (p - k)).toNat = (l - p).toNat + k := by omega
          rw [e2, Nat.pow_zero, Nat.mul_one, e3]
          exact rnd_scale _ _ _
    rw [hk]

theorem rg_lt0 (x : Nat) : rg x < 9223372036854775808 := Nat.mod_lt _ (by decide)

/-- A FLOAT64 IS ITS OWN ROUNDING. -/
theorem rung_exact {x : Nat} (h : finB x = true) {m : Nat} {p : Int} (hr : Ieee.double.read x = .number (sgn x) m p) : rung m p = rg x := by
  unfold finB at h
  have h := of_decide_eq_true h
  unfold Format.read at hr
  rw [binade64, sign64, inf64, least64] at hr
  have hlt := rg_lt0 x
  by_cases h1 : rg x < 4503599627370496
  · have e : (Datum.number (sgn x) (rg x) (-1074)) = Datum.number (sgn x) m p := by
      rw [← hr]
      unfold rg at h1 ⊢
      simp only [h1, if_true]
      rfl
    injection e with e0 e1 e2
    subst e1; subst e2
    by_cases hz : rg x = 0
    · rw [hz, rung_zero]
    · rw [rung_eq hz]
      have hlog : (rg x).log2 < 52 := (Nat.log2_lt hz).2 (by have e52 : (2 : Nat) ^ 52 = 4503599627370496 := by decide
                                                             rw [e52]; exact h1)
      have hl : lastP (rg x) (-1074) = -1074 := by unfold lastP; omega
      rw [hl]
      have e1 : ((-1074 : Int) - -1074).toNat = 0 := by decide
      have e2 : ((-1074 : Int) + 1074).toNat = 0 := by decide
      rw [e1, e2, rnd_zero]
      omega
  · have e : (Datum.number (sgn x) (4503599627370496 + rg x % 4503599627370496) (-1074 + ((rg x / 4503599627370496 - 1 : Nat) : Int))) = Datum.number (sgn x) m p := by
      rw [← hr]
      unfold rg at h h1 ⊢
      simp only [h, h1, if_true, if_false]
      rfl
    injection e with e0 e1 e2
    have hd := Nat.div_add_mod (rg x) 4503599627370496
    have hm := Nat.mod_lt (rg x) (show 0 < 4503599627370496 by decide)
    have hq : 1 ≤ rg x / 4503599627370496 := (Nat.le_div_iff_mul_le (by decide)).2 (by omega)
    generalize rg x % 4503599627370496 = r at *
    generalize rg x / 4503599627370496 = q at *
    subst e1; subst e2
    have hz : 4503599627370496 + r ≠ 0 := by omega
    rw [rung_eq hz]
    have hlog : (4503599627370496 + r).log2 = 52 := (Nat.log2_eq_iff hz).2 (by
      have e52 : (2 : Nat) ^ 52 = 4503599627370496 := by decide
      have e53 : (2 : Nat) ^ (52 + 1) = 9007199254740992 := by decide
      rw [e52, e53]
      omega)
    have hl : lastP (4503599627370496 + r) (-1074 + ((q - 1 : Nat) : Int)) = -1074 + ((q - 1 : Nat) : Int) := by unfold lastP; rw [hlog]; omega
    rw [hl]
    have e1 : (-1074 + ((q - 1 : Nat) : Int) - (-1074 + ((q - 1 : Nat) : Int))).toNat = 0 := by omega
    have e2 : (-1074 + ((q - 1 : Nat) : Int) + 1074).toNat = q - 1 := by omega
    rw [e1, e2, rnd_zero, Nat.pow_zero, Nat.mul_one]
    have h3 : (q - 1) * 4503599627370496 + 4503599627370496 = q * 4503599627370496 := by
      have : q = q - 1 + 1 := by omega
      rw [this, Nat.add_mul (q - 1) 1]
      simp
    omega
end Go.Proofs.Ythpnlhbfginkjaa
