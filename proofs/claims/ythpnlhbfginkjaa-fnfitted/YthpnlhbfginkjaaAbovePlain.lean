/- Digits and places: doubling and halving what has at most 53 digits is exact; plain. -/
import Derived.Test.YthpnlhbfginkjaaFloatRound
namespace Go.Proofs.Ythpnlhbfginkjaa
open Ieee
open Go.RowKit

theorem vr_form {E K : Nat} (hK : K < 9007199254740992) (h : 4503599627370496 ≤ K ∨ E = 0) : vr (E * 4503599627370496 + K) = K * 2 ^ E := by
  by_cases h1 : K < 4503599627370496
  · have hE : E = 0 := by omega
    subst hE
    unfold vr
    rw [Nat.zero_mul, Nat.zero_add, if_pos h1, Nat.pow_zero, Nat.mul_one]
  · obtain ⟨m, rfl⟩ : ∃ m, K = 4503599627370496 + m := ⟨K - 4503599627370496, by omega⟩
    have hm : m < 4503599627370496 := by omega
    have e : E * 4503599627370496 + (4503599627370496 + m) = (E + 1) * 4503599627370496 + m := by rw [Nat.add_mul E 1]; omega
    rw [e]
    have e1 : ((E + 1) * 4503599627370496 + m) % 4503599627370496 = m := by rw [Nat.add_comm, Nat.add_mul_mod_self_right, Nat.mod_eq_of_lt hm]
    have e2 : ((E + 1) * 4503599627370496 + m) / 4503599627370496 = E + 1 := by rw [Nat.add_comm, Nat.add_mul_div_right _ _ (by decide), Nat.div_eq_of_lt hm, Nat.zero_add]
    unfold vr
    rw [if_neg (by rw [Nat.add_mul E 1]; omega), e1, e2, Nat.add_sub_cancel]

theorem log_le {m : Nat} (h0 : m ≠ 0) (h1 : m < 9007199254740992) : m.log2 ≤ 52 := by
  have : m.log2 < 53 := (Nat.log2_lt h0).2 (by have : (2 : Nat) ^ 53 = 9007199254740992 := by decide
                                               omega)
  omega

theorem rung_form {m : Nat} (h0 : m ≠ 0) (h1 : m < 9007199254740992) {p : Int} (hp : -1074 ≤ p) : ∃ E K : Nat, K < 9007199254740992 ∧ (4503599627370496 ≤ K ∨ E = 0) ∧ rung m p = min (E * 4503599627370496 + K) 9218868437227405312 ∧ K * 2 ^ E = m * 2 ^ (p + 1074).toNat := by
  have hL := log_le h0 h1
  have hl : lastP m p ≤ p := by unfold lastP; omega
  have hl2 : p + m.log2 - 52 ≤ lastP m p := by unfold lastP; omega
  have hr := rung_eq h0 p
  have e0 : (lastP m p - p).toNat = 0 := by omega
  have hg := last_ge m p
  rw [e0, rnd_zero] at hr
  refine ⟨(lastP m p + 1074).toNat, m * 2 ^ (p - lastP m p).toNat, ?_, ?_, hr, ?_⟩
  · have h2 : m < 2 ^ (m.log2 + 1) := Nat.lt_log2_self
    have h3 : m * 2 ^ (p - lastP m p).toNat < 2 ^ (m.log2 + 1) * 2 ^ (p - lastP m p).toNat := Nat.mul_lt_mul_of_pos_right h2 (Nat.two_pow_pos _)
    rw [← Nat.pow_add] at h3
    have h4 : 2 ^ (m.log2 + 1 + (p - lastP m p).toNat) ≤ 2 ^ 53 := Nat.pow_le_pow_right (by decide) (by omega)
    have e53 : (2 : Nat) ^ 53 = 9007199254740992 := by decide
    omega
  · by_cases hc : -1074 < lastP m p
    · left
      have := kept_ge h0 p hc
      rw [e0, rnd_zero] at this
      exact this
    · right
      omega
  · rw [Nat.mul_assoc, ← Nat.pow_add]
    congr 2
    omega

/-- What has at most 53 digits is kept whole. -/
theorem vr_rung {m : Nat} (h1 : m ≤ 9007199254740992) {p : Int} (hp : -1074 ≤ p) (hf : rung m p < 9218868437227405312) : vr (rung m p) = m * 2 ^ (p + 1074).toNat := by
  by_cases h0 : m = 0
  · rw [h0, rung_zero, vr_zero, Nat.zero_mul]
  · have main : ∀ (n : Nat) (t : Int), n ≠ 0 → n < 9007199254740992 → -1074 ≤ t → rung n t < 9218868437227405312 → vr (rung n t) = n * 2 ^ (t + 1074).toNat := by
      intro n t n0 n1 ht hn
      obtain ⟨E, K, k1, k2, k3, k4⟩ := rung_form n0 n1 ht
      rw [k3] at hn ⊢
      have hle : E * 4503599627370496 + K < 9218868437227405312 := by
        rcases Nat.lt_or_ge (E * 4503599627370496 + K) 9218868437227405312 with h | h
        · exact h
        · rw [Nat.min_eq_right h] at hn
          exact absurd hn (Nat.lt_irrefl _)
      rw [Nat.min_eq_left (Nat.le_of_lt hle), vr_form k1 k2, k4]
    by_cases h2 : m < 9007199254740992
    · exact main m p h0 h2 hp hf
    · obtain rfl : m = 9007199254740992 := by omega
      have e := rung_scale 1 53 (p + 53)
      rw [show (1 : Nat) * 2 ^ 53 = 9007199254740992 by decide, show p + 53 - ((53 : Nat) : Int) = p by omega] at e
      rw [e] at hf ⊢
      rw [main 1 (p + 53) (by decide) (by decide) (by omega) hf, show (p + 53 + 1074).toNat = 53 + (p + 1074).toNat by omega, Nat.pow_add, Nat.one_mul]

/-- The rung of digits that stand as they are read. -/
theorem norm_rung {m : Nat} {p : Int} (h1 : m < 9007199254740992) (hp : -1074 ≤ p) (hn : 4503599627370496 ≤ m ∨ p = -1074) : rung m p = min ((p + 1074).toNat * 4503599627370496 + m) 9218868437227405312 := by
  by_cases h0 : m = 0
  · subst h0
    have : p = -1074 := by omega
    subst this
    rw [rung_zero]
    rfl
  · have hL := log_le h0 h1
    have hl : lastP m p = p := by
      unfold lastP
      rcases hn with hn | hn
      · have : 52 ≤ m.log2 := (Nat.le_log2 h0).2 (by have : (2 : Nat) ^ 52 = 4503599627370496 := by decide
                                                     omega)
        omega
      · omega
    rw [rung_eq h0, hl, Int.sub_self]
    show min (_ + rnd (m * 2 ^ 0) 0) _ = _
    rw [rnd_zero, Nat.pow_zero, Nat.mul_one]

/-- Every number has such digits. -/
theorem norm_of {r : Nat} (h0 : 0 < r) (h1 : r < 9218868437227405312) : ∃ (m : Nat) (q : Int), 0 < m ∧ m < 9007199254740992 ∧ -1074 ≤ q ∧ q ≤ 971 ∧ (4503599627370496 ≤ m ∨ q = -1074) ∧ r = (q + 1074).toNat * 4503599627370496 + m := by
  by_cases h : r < 4503599627370496
  · exact ⟨r, -1074, h0, by omega, by omega, by omega, .inr rfl, by simp⟩
  · have hd := Nat.div_add_mod r 4503599627370496
    have hm := Nat.mod_lt r (show 0 < 4503599627370496 by decide)
    have hq : 1 ≤ r / 4503599627370496 := (Nat.le_div_iff_mul_le (by decide)).2 (by omega)
    have hq2 : r / 4503599627370496 < 2047 := (Nat.div_lt_iff_lt_mul (by decide)).2 (by omega)
    refine ⟨4503599627370496 + r % 4503599627370496, (r / 4503599627370496 : Nat) - 1 - 1074, by omega, by omega, by omega, by omega, .inl (by omega), ?_⟩
    rw [show (((r / 4503599627370496 : Nat) : Int) - 1 - 1074 + 1074).toNat = r / 4503599627370496 - 1 by omega, Nat.sub_mul]
    omega

theorem rung_double (m : Nat) (p : Int) : rung (m * 2) p = rung m (p + 1) := by
  have := rung_scale m 1 (p + 1)
  rw [Nat.pow_one, show p + 1 - ((1 : Nat) : Int) = p by omega] at this
  exact this

theorem sgn_small {r : Nat} (h : r < 9223372036854775808) : sgn r = false := by
  unfold sgn
  rw [Nat.div_eq_of_lt h]
  rfl
theorem rg_small {r : Nat} (h : r < 9223372036854775808) : rg r = r := Nat.mod_eq_of_lt h

theorem word_false (r : Nat) : Ieee.double.word false r = r := by
  unfold Format.word
  rw [if_neg Bool.false_ne_true]

theorem read_two : Ieee.double.read 4611686018427387904 = .number false 4503599627370496 (-51) := by rfl

/-- Twice a number. -/
theorem mul_two {x : Nat} (h : x < 9218868437227405312) : floatBits .mul .f64 x 4611686018427387904 = some (rung (vr x) (-1073)) := by
  have hb : x < 9223372036854775808 := by omega
  have hf : finB x = true := by unfold finB; rw [rg_small hb]; exact decide_eq_true h
  obtain ⟨m, e, h1, h2⟩ := read_fin hf
  rw [sgn_small hb] at h1
  rw [rg_small hb] at h2
  unfold floatBits
  rw [f64_format]
  show ((Ieee.double.read x).product (Ieee.double.read 4611686018427387904)).map Ieee.double.write = _
  rw [h1, read_two]
  show some (Ieee.double.nearest false (m * 4503599627370496) (-1074 + (e : Int) + -51)) = _
  rw [nearest_eq, word_false]
  have e1 := rung_scale m 52 (-1073 + (e : Int))
  have e2 := rung_scale m e (-1073 + (e : Int))
  rw [show (2 : Nat) ^ 52 = 4503599627370496 by decide, show -1073 + (e : Int) - ((52 : Nat) : Int) = -1074 + (e : Int) + -51 by omega] at e1
  rw [h2, show -1073 + (e : Int) - (e : Int) = -1073 by omega] at e2
  rw [e1, e2]

/-- Half a number. -/
theorem quo_two {x : Nat} (h : x < 9218868437227405312) : floatBits .quo .f64 x 4611686018427387904 = some (rung (vr x) (-1075)) := by
  have hb : x < 9223372036854775808 := by omega
  have hf : finB x = true := by unfold finB; rw [rg_small hb]; exact decide_eq_true h
  obtain ⟨m, e, h1, h2⟩ := read_fin hf
  have hr := rung_exact hf h1
  rw [sgn_small hb] at h1
  rw [rg_small hb] at h2
  unfold floatBits
  rw [f64_format]
  show ((Ieee.double.read x).quotient 54 (Ieee.double.read 4611686018427387904)).map Ieee.double.write = _
  rw [h1, read_two]
  have hm : m < 9007199254740992 := by
    unfold Format.read at h1
    rw [binade64, sign64, inf64, least64] at h1
    have g0 : x % 9223372036854775808 = x := Nat.mod_eq_of_lt hb
    have g1 := Nat.mod_lt x (show 0 < 4503599627370496 by decide)
    rw [g0] at h1
    by_cases g : x < 4503599627370496
    · simp only [g, if_true] at h1
      injection h1 with _ a _
      omega
    · simp only [g, h, if_true, if_false] at h1
      injection h1 with _ a _
      omega
  have hL : m.log2 ≤ 52 := by
    by_cases h0 : m = 0
    · rw [h0]; decide
    · exact log_le h0 hm
  have lT : Nat.log2 4503599627370496 = 52 := by decide
  obtain ⟨t, ht⟩ : ∃ t, 54 + 52 - m.log2 = t + 52 := ⟨54 - m.log2, by omega⟩
  have hd : m * 2 ^ (t + 52) = m * 2 ^ t * 4503599627370496 := by rw [Nat.pow_add, ← Nat.mul_assoc]
  have hq : m * 2 ^ (t + 52) / 4503599627370496 = m * 2 ^ t := by rw [hd]; exact Nat.mul_div_cancel _ (by decide)
  have hz : m * 2 ^ (t + 52) % 4503599627370496 = 0 := by rw [hd]; exact Nat.mul_mod_left _ _
  have h52 : ¬ (4503599627370496 : Nat) = 0 := by decide
  simp only [Ieee.Datum.quotient, h52, if_false, lT, ht, Nat.shiftLeft_eq, hq, hz]
  show some (Ieee.double.nearest false (2 * (m * 2 ^ t) + 0) (-1074 + (e : Int) - -51 - ((t + 52 : Nat) : Int) - 1)) = _
  rw [nearest_eq, word_false, Nat.add_zero]
  have e1 := rung_scale m (t + 1) (-1075 + (e : Int))
  have e2 := rung_scale m e (-1075 + (e : Int))
  rw [h2, show -1075 + (e : Int) - (e : Int) = -1075 by omega] at e2
  rw [show 2 * (m * 2 ^ t) = m * 2 ^ (t + 1) by rw [Nat.pow_succ, Nat.mul_comm 2, Nat.mul_assoc], show -1074 + (e : Int) - -51 - ((t + 52 : Nat) : Int) - 1 = -1075 + (e : Int) - ((t + 1 : Nat) : Int) by omega, e1, e2]

/-- The infinity doubled. -/
theorem mul_inf : floatBits .mul .f64 9218868437227405312 4611686018427387904 = some 9218868437227405312 := by decide

/-- Digits go up by a place. -/
theorem step_up {m : Nat} (h1 : m ≤ 9007199254740992) {p : Int} (hp : -1074 ≤ p) : floatBits .mul .f64 (rung m p) 4611686018427387904 = some (rung m (p + 1)) := by
  rcases Nat.lt_or_eq_of_le (rung_le m p) with h | h
  · rw [mul_two h, vr_rung h1 hp h]
    have e := rung_scale m (p + 1074).toNat (p + 1)
    rw [show p + 1 - ((p + 1074).toNat : Int) = -1073 by omega] at e
    rw [e]
  · rw [h, mul_inf]
    have h2 := rung_mono (Nat.le_mul_of_pos_right m (show 0 < 2 by decide)) p
    rw [rung_double, h] at h2
    have h3 := rung_le m (p + 1)
    congr 1
    omega

/-- And down by a place. -/
theorem step_down {m : Nat} (h1 : m ≤ 9007199254740992) {p : Int} (hp : -1074 < p) (hf : rung m p < 9218868437227405312) : floatBits .quo .f64 (rung m p) 4611686018427387904 = some (rung m (p - 1)) := by
  rw [quo_two hf, vr_rung h1 (by omega) hf]
  have e := rung_scale m (p + 1074).toNat (p - 1)
  rw [show p - 1 - ((p + 1074).toNat : Int) = -1075 by omega] at e
  rw [e]

/-- At places of nought and below all is finite. -/
theorem rung_low {m : Nat} (h1 : m ≤ 9007199254740992) {p : Int} (hp : -1074 ≤ p) (h0 : p ≤ 0) : rung m p < 9218868437227405312 := by
  have h2 := rung_mono h1 p
  have e := rung_double 4503599627370496 p
  rw [show 4503599627370496 * 2 = 9007199254740992 by decide] at e
  rw [e, norm_rung (by decide) (by omega) (.inl (Nat.le_refl _))] at h2
  have h3 : (p + 1 + 1074).toNat * 4503599627370496 ≤ 1075 * 4503599627370496 := Nat.mul_le_mul_right _ (by omega)
  omega

/-- Where a number of less than 53 digits stands. -/
theorem rung_top {m : Nat} (h1 : m < 9007199254740992) {p : Int} (hp : -1074 ≤ p) : rung m p < ((p + 1074).toNat + 2) * 4503599627370496 := by
  have h2 := rung_mono (show m ≤ 9007199254740991 by omega) p
  rw [norm_rung (m := 9007199254740991) (by decide) hp (.inl (by decide))] at h2
  have h3 := Nat.min_le_left ((p + 1074).toNat * 4503599627370496 + 9007199254740991) 9218868437227405312
  rw [Nat.add_mul]
  omega

theorem cut_zero (s : Bool) (a d : Nat) : Toward.zero.cut s a d = a / 2 ^ d := by
  unfold Toward.cut
  dsimp only
  rw [Nat.one_shiftLeft]
  by_cases h : d ≤ a.log2 + 2
  · rw [Nat.min_eq_left h]
    rfl
  · have hm : min d (a.log2 + 2) = a.log2 + 2 := by omega
    rw [hm]
    have h1 : a < 2 ^ (a.log2 + 1) := Nat.lt_log2_self
    have h3 : 2 ^ (a.log2 + 1) ≤ 2 ^ (a.log2 + 2) := Nat.pow_le_pow_right (by decide) (by omega)
    have h4 : 2 ^ (a.log2 + 1) ≤ 2 ^ d := Nat.pow_le_pow_right (by decide) (by omega)
    rw [Nat.div_eq_of_lt (Nat.lt_of_lt_of_le h1 h3), Nat.div_eq_of_lt (Nat.lt_of_lt_of_le h1 h4)]
    rfl

/-- A number that is whole, made whole. -/
theorem to_whole {x m T : Nat} (hT : T = 1074) (h : x < 9218868437227405312) (hv : vr x = m * 2 ^ T) (hm : m < 9007199254740992) : floatToIntVal .f64 x .u64 = some (m : Int) := by
  have hb : x < 9223372036854775808 := by omega
  have hf : finB x = true := by unfold finB; rw [rg_small hb]; exact decide_eq_true h
  obtain ⟨M, e, h1, h2⟩ := read_fin hf
  rw [sgn_small hb] at h1
  rw [rg_small hb, hv] at h2
  have hc : Toward.zero.cut false (M <<< (-1074 + (e : Int)).toNat) (-(-1074 + (e : Int))).toNat = m := by
    rw [cut_zero, Nat.shiftLeft_eq]
    rcases Nat.lt_or_ge e T with he | he
    · have e1 : (-1074 + (e : Int)).toNat = 0 := by omega
      have e2 : (-(-1074 + (e : Int))).toNat = T - e := by omega
      rw [e1, e2, Nat.pow_zero, Nat.mul_one]
      have e3 : m * 2 ^ T = m * 2 ^ (T - e) * 2 ^ e := by rw [Nat.mul_assoc, ← Nat.pow_add, Nat.sub_add_cancel (Nat.le_of_lt he)]
      rw [e3] at h2
      rw [Nat.eq_of_mul_eq_mul_right (Nat.two_pow_pos e) h2]
      exact Nat.mul_div_cancel _ (Nat.two_pow_pos _)
    · have e1 : (-1074 + (e : Int)).toNat = e - T := by omega
      have e2 : (-(-1074 + (e : Int))).toNat = 0 := by omega
      rw [e1, e2, Nat.pow_zero, Nat.div_one]
      have e3 : M * 2 ^ e = M * 2 ^ (e - T) * 2 ^ T := by rw [Nat.mul_assoc, ← Nat.pow_add, Nat.sub_add_cancel he]
      rw [e3] at h2
      exact Nat.eq_of_mul_eq_mul_right (Nat.two_pow_pos T) h2
  unfold floatToIntVal
  have hd : (FloatKind.f64.decode x).toInt .zero = some (m : Int) := by
    show (Ieee.double.read x).toInt .zero = _
    rw [h1]
    show some (signed false (Toward.zero.cut false (M <<< (-1074 + (e : Int)).toNat) (-(-1074 + (e : Int))).toNat) 0) = _
    rw [hc, signed_eq]
    simp
  rw [hd]
  have hmin : IntKind.u64.min = 0 := by decide
  have hmax : IntKind.u64.max = 18446744073709551615 := by decide
  show (if IntKind.u64.min ≤ (m : Int) ∧ (m : Int) ≤ IntKind.u64.max then some (m : Int) else none) = _
  rw [hmin, hmax, if_pos ⟨by omega, by omega⟩]

theorem ofInt_rung (m : Nat) : floatOfInt .f64 (m : Int) = rung m 0 := by
  show Ieee.double.nearest (decide ((m : Int) < 0)) (m : Int).natAbs 0 = _
  rw [decide_eq_false (by omega), nearest_eq, word_false]
  rfl

theorem negA_parts (x : Nat) : rg (Op.negFloat .f64 x) = rg x ∧ sgn (Op.negFloat .f64 x) = !sgn x := by
  have h1 : Op.negFloat .f64 x = x ^^^ 9223372036854775808 := rfl
  have e63 : (2 : Nat) ^ 63 = 9223372036854775808 := by decide
  have hb : ∀ y : Nat, sgn y = y.testBit 63 := by
    intro y
    unfold sgn
    rw [Nat.testBit_eq_decide_div_mod_eq, e63, Bool.eq_iff_iff]
    simp
  constructor
  · unfold rg
    rw [h1]
    have := Nat.xor_mod_two_pow (a := x) (b := 9223372036854775808) (n := 63)
    rw [e63] at this
    rw [this, Nat.mod_self, Nat.xor_zero]
  · rw [hb, hb, h1, Nat.testBit_xor]
    have e : (9223372036854775808 : Nat).testBit 63 = true := by decide
    rw [e]
    simp

theorem negA_lt {x : Nat} (h : x < 18446744073709551616) : Op.negFloat .f64 x < 18446744073709551616 := by
  show x ^^^ 2 ^ (11 + 52) < 2 ^ 64
  exact Nat.xor_lt_two_pow h (by decide)

theorem word_ofA (x : Nat) (hx : x < 18446744073709551616) : x = (if sgn x then 9223372036854775808 else 0) + rg x := by
  have h1 := Nat.div_add_mod x 9223372036854775808
  have h2 : x / 9223372036854775808 < 2 := (Nat.div_lt_iff_lt_mul (by decide)).2 hx
  unfold sgn rg
  rcases (by omega : x / 9223372036854775808 = 0 ∨ x / 9223372036854775808 = 1) with h | h
  · rw [h] at h1 ⊢
    rw [if_neg (by decide)]
    omega
  · rw [h] at h1 ⊢
    rw [if_pos (by decide)]
    omega

theorem neg_small {r : Nat} (h : r < 9223372036854775808) : Op.negFloat .f64 r = 9223372036854775808 + r := by
  obtain ⟨h1, h2⟩ := negA_parts r
  have := word_ofA _ (negA_lt (x := r) (by omega))
  rw [h1, h2, sgn_small h, rg_small h] at this
  exact this

theorem neg_great {r : Nat} (h : r < 9223372036854775808) : Op.negFloat .f64 (9223372036854775808 + r) = r := by
  have hs : sgn (9223372036854775808 + r) = true := by
    unfold sgn
    rw [Nat.add_div_left _ (by decide), Nat.div_eq_of_lt h]
    rfl
  have hr : rg (9223372036854775808 + r) = r := by
    unfold rg
    rw [Nat.add_mod_left, Nat.mod_eq_of_lt h]
  obtain ⟨h1, h2⟩ := negA_parts (9223372036854775808 + r)
  have := word_ofA _ (negA_lt (x := 9223372036854775808 + r) (by omega))
  rw [h1, h2, hs, hr] at this
  rw [this]
  simp
end Go.Proofs.Ythpnlhbfginkjaa
