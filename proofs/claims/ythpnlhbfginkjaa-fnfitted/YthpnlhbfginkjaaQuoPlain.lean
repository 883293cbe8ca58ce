/- Quotients of whole numbers as floats: they rise with what is divided; plain. -/
import Derived.Test.YthpnlhbfginkjaaFloatRound
namespace Go.Proofs.Ythpnlhbfginkjaa
open Ieee
open Go.RowKit

/-- A quotient with one digit more, which tells that something is left over. -/
def qr (A n : Nat) : Nat := 2 * (A / n) + (A % n != 0).toNat

theorem qr_mono {A B : Nat} (n : Nat) (h : A ≤ B) : qr A n ≤ qr B n := by
  unfold qr
  have hq : A / n ≤ B / n := Nat.div_le_div_right h
  have h2 : ∀ t : Bool, t.toNat ≤ 1 := fun t => by cases t <;> decide
  rcases Nat.lt_or_eq_of_le hq with h1 | h1
  · have := h2 (A % n != 0)
    omega
  · have ha := Nat.div_add_mod A n
    have hb := Nat.div_add_mod B n
    rw [h1] at ha ⊢
    apply Nat.add_le_add_left
    by_cases hz : A % n = 0
    · rw [hz]; exact Nat.zero_le _
    · have hb0 : B % n ≠ 0 := by omega
      have e1 : (A % n != 0) = true := by simpa using hz
      have e2 : (B % n != 0) = true := by simpa using hb0
      rw [e1, e2]
      exact Nat.le_refl _

theorem qr_scale (A n t : Nat) : qr (A * 2 ^ t) (n * 2 ^ t) = qr A n := by
  unfold qr
  have ht : 0 < 2 ^ t := Nat.two_pow_pos t
  rw [Nat.mul_div_mul_right _ _ ht, Nat.mul_mod_mul_right]
  have e : (A % n * 2 ^ t != 0) = (A % n != 0) := by
    by_cases h : A % n = 0
    · rw [h, Nat.zero_mul]
    · have e1 : (A % n != 0) = true := by simpa using h
      have e2 : (A % n * 2 ^ t != 0) = true := bne_iff_ne.2 (Nat.mul_ne_zero h (Nat.pos_iff_ne_zero.1 ht))
      rw [e1, e2]
  rw [e]

/-- A fraction by a power of two, to the nearest, of two the even one. -/
def rq (A n d : Nat) : Nat := A / (n * 2 ^ d) + (decide (n * 2 ^ d < 2 * (A % (n * 2 ^ d))) || (n * 2 ^ d == 2 * (A % (n * 2 ^ d)) && A / (n * 2 ^ d) % 2 == 1)).toNat

theorem rq_double (A n d : Nat) : rq (A * 2) n (d + 1) = rq A n d := by
  unfold rq
  have e0 : n * 2 ^ (d + 1) = n * 2 ^ d * 2 := by rw [Nat.pow_succ, Nat.mul_assoc]
  rw [e0, Nat.mul_div_mul_right _ _ (by decide), Nat.mul_mod_mul_right]
  generalize n * 2 ^ d = G
  generalize A % G = r
  have e3 : decide (G * 2 < 2 * (r * 2)) = decide (G < 2 * r) := decide_eq_decide.2 (by omega)
  have e4 : (G * 2 == 2 * (r * 2)) = (G == 2 * r) := by rw [Bool.eq_iff_iff, beq_iff_eq, beq_iff_eq]; omega
  rw [e3, e4]

/-- Rounding the quotient with its digit more is rounding the fraction. -/
theorem rnd_qr (A : Nat) {n : Nat} (hn : 0 < n) (d : Nat) : rnd (qr A n) (d + 2) = rq A n (d + 1) := by
  have hG : 0 < 2 ^ d := Nat.two_pow_pos d
  unfold rnd rq qr
  have e2 : 2 ^ (d + 2) = 4 * 2 ^ d := by rw [Nat.pow_add, Nat.mul_comm]
  have e1 : 2 ^ (d + 1) = 2 * 2 ^ d := by rw [Nat.pow_succ, Nat.mul_comm]
  rw [e2, e1]
  generalize 2 ^ d = G at *
  have hu : A % n < n := Nat.mod_lt _ hn
  have hA := Nat.div_add_mod A n
  generalize A / n = Q at *
  generalize A % n = u at *
  have hq := Nat.div_add_mod Q (2 * G)
  have ht : Q % (2 * G) < 2 * G := Nat.mod_lt _ (by omega)
  generalize hqq : Q / (2 * G) = q at *
  generalize htt : Q % (2 * G) = t at *
  have hs : (u != 0).toNat ≤ 1 := by cases (u != 0) <;> decide
  have hsu : (u != 0).toNat = 0 ↔ u = 0 := by
    by_cases h : u = 0
    · simp [h]
    · have : (u != 0) = true := by simpa using h
      rw [this]
      simp [h]
  generalize (u != 0).toNat = s at *
  -- the left side
  have l1 : (2 * Q + s) / (4 * G) = q := by
    rw [← hq]
    have : 2 * (2 * G * q + t) + s = 4 * G * q + (2 * t + s) := by
      rw [Nat.mul_assoc 2 G q, Nat.mul_assoc 4 G q]
      omega
    rw [this, Nat.mul_add_div (by omega), Nat.div_eq_of_lt (by omega), Nat.add_zero]
  have l2 : (2 * Q + s) % (4 * G) = 2 * t + s := by
    rw [← hq]
    have : 2 * (2 * G * q + t) + s = 4 * G * q + (2 * t + s) := by
      rw [Nat.mul_assoc 2 G q, Nat.mul_assoc 4 G q]
      omega
    rw [this, Nat.mul_add_mod, Nat.mod_eq_of_lt (by omega)]
  -- the right side
  have hlt : n * t + u < n * (2 * G) := by
    have : n * t + n ≤ n * (2 * G) := by rw [← Nat.mul_succ]; exact Nat.mul_le_mul_left n ht
    omega
  have hA2 : A = n * (2 * G) * q + (n * t + u) := by
    rw [← hA, ← hq, Nat.mul_add, ← Nat.mul_assoc, Nat.add_assoc]
  have r1 : A / (n * (2 * G)) = q := by
    rw [hA2, Nat.mul_add_div (by omega), Nat.div_eq_of_lt hlt, Nat.add_zero]
  have r2 : A % (n * (2 * G)) = n * t + u := by
    rw [hA2, Nat.mul_add_mod, Nat.mod_eq_of_lt hlt]
  rw [l1, l2, r1, r2]
  have c1 : decide (4 * G < 2 * (2 * t + s)) = decide (n * (2 * G) < 2 * (n * t + u)) := by
    apply decide_eq_decide.2
    rcases Nat.lt_trichotomy t G with h | h | h
    · have h3 : n * t + n ≤ n * G := by rw [← Nat.mul_succ]; exact Nat.mul_le_mul_left n h
      have h4 : n * (2 * G) = 2 * (n * G) := by rw [Nat.mul_left_comm]
      rw [h4]
      constructor <;> intro hh <;> omega
    · subst h
      have h4 : n * (2 * t) = 2 * (n * t) := by rw [Nat.mul_left_comm]
      rw [h4]
      constructor <;> intro hh
      · have : u ≠ 0 := fun h0 => by have := hsu.2 h0; omega
        omega
      · have : s ≠ 0 := fun h0 => by have := hsu.1 h0; omega
        omega
    · have h3 : n * G + n ≤ n * t := by rw [← Nat.mul_succ]; exact Nat.mul_le_mul_left n h
      have h4 : n * (2 * G) = 2 * (n * G) := by rw [Nat.mul_left_comm]
      rw [h4]
      constructor <;> intro hh <;> omega
  have c2 : (4 * G == 2 * (2 * t + s)) = (n * (2 * G) == 2 * (n * t + u)) := by
    rw [Bool.eq_iff_iff, beq_iff_eq, beq_iff_eq]
    have h4 : n * (2 * G) = 2 * (n * G) := by rw [Nat.mul_left_comm]
    rw [h4]
    rcases Nat.lt_trichotomy t G with h | h | h
    · have h3 : n * t + n ≤ n * G := by rw [← Nat.mul_succ]; exact Nat.mul_le_mul_left n h
      constructor <;> intro hh <;> omega
    · subst h
      constructor <;> intro hh
      · have := hsu.1 (by omega)
        omega
      · have := hsu.2 (by omega)
        omega
    · have h3 : n * G + n ≤ n * t := by rw [← Nat.mul_succ]; exact Nat.mul_le_mul_left n h
      constructor <;> intro hh <;> omega
  rw [c1, c2]

/-- One digit more of the quotient changes nothing. -/
theorem rung_step {A n : Nat} (hn : 0 < n) (hA : 9007199254740992 ≤ A / n) (P : Int) : rung (qr (A * 2) n) (P - 1) = rung (qr A n) P := by
  have hq : A / n ≠ 0 := by omega
  have hs : ∀ t : Bool, t.toNat ≤ 1 := fun t => by cases t <;> decide
  have b1 := hs (A % n != 0)
  have b2 := hs (A * 2 % n != 0)
  have h1 : qr A n ≠ 0 := by unfold qr; omega
  have hA2 : 2 * (A / n) ≤ A * 2 / n ∧ A * 2 / n ≤ 2 * (A / n) + 1 := by
    have hd := Nat.div_add_mod A n
    have hm := Nat.mod_lt A hn
    constructor
    · rw [Nat.le_div_iff_mul_le hn]
      have : 2 * (A / n) * n = 2 * (n * (A / n)) := by rw [Nat.mul_assoc, Nat.mul_comm (A / n)]
      omega
    · apply Nat.le_of_lt_succ
      rw [Nat.div_lt_iff_lt_mul hn]
      have : (2 * (A / n) + 1).succ * n = 2 * (n * (A / n)) + 2 * n := by
        rw [Nat.succ_eq_add_one, Nat.add_mul, Nat.add_mul, Nat.mul_assoc, Nat.mul_comm (A / n)]
        omega
      omega
  have h2 : qr (A * 2) n ≠ 0 := by unfold qr; omega
  have hlo := Nat.log2_self_le hq
  have hhi : A / n < 2 ^ ((A / n).log2 + 1) := Nat.lt_log2_self
  have hL53 : 53 ≤ (A / n).log2 := (Nat.le_log2 hq).2 (by have : (2 : Nat) ^ 53 = 9007199254740992 := by decide
                                                          omega)
  generalize hLL : (A / n).log2 = L at *
  have p1 : 2 ^ (L + 1) = 2 * 2 ^ L := by rw [Nat.pow_succ, Nat.mul_comm]
  have p2 : 2 ^ (L + 2) = 4 * 2 ^ L := by rw [Nat.pow_add, Nat.mul_comm]
  have p3 : 2 ^ (L + 3) = 8 * 2 ^ L := by rw [Nat.pow_add, Nat.mul_comm]
  have l1 : (qr A n).log2 = L + 1 := (Nat.log2_eq_iff h1).2 (by
    unfold qr
    rw [p1, show L + 1 + 1 = L + 2 by omega, p2]
    omega)
  have l2 : (qr (A * 2) n).log2 = L + 2 := (Nat.log2_eq_iff h2).2 (by
    unfold qr
    rw [p2, show L + 2 + 1 = L + 3 by omega, p3]
    omega)
  rw [rung_eq h1, rung_eq h2]
  have hl : lastP (qr (A * 2) n) (P - 1) = lastP (qr A n) P := by unfold lastP; rw [l1, l2]; omega
  have hge : P + 2 ≤ lastP (qr A n) P := by unfold lastP; rw [l1]; omega
  rw [hl]
  generalize lastP (qr A n) P = l at *
  have e1 : (P - 1 - l).toNat = 0 := by omega
  have e2 : (P - l).toNat = 0 := by omega
  obtain ⟨d, hd⟩ : ∃ d, (l - P).toNat = d + 2 := ⟨(l - P).toNat - 2, by omega⟩
  have e3 : (l - (P - 1)).toNat = d + 1 + 2 := by omega
  rw [e1, e2, e3, hd, Nat.pow_zero, Nat.mul_one, Nat.mul_one, rnd_qr _ hn, rnd_qr _ hn, rq_double]

theorem rung_steps {A n : Nat} (hn : 0 < n) (hA : 9007199254740992 ≤ A / n) (P : Int) (j : Nat) : rung (qr (A * 2 ^ j) n) (P - j) = rung (qr A n) P := by
  induction j with
  | zero => simp
  | succ j ih =>
    have h : 9007199254740992 ≤ A * 2 ^ j / n := Nat.le_trans hA (Nat.div_le_div_right (Nat.le_mul_of_pos_right A (Nat.two_pow_pos j)))
    have := rung_step hn h (P - j)
    rw [← ih, ← this, Nat.pow_succ, ← Nat.mul_assoc]
    congr 1
    omega

/-- What a whole number stands for as a float. -/
theorem read_ofInt {a : Nat} (h0 : a ≠ 0) (h1 : a < 9007199254740992) : Ieee.double.read (floatOfInt .f64 (a : Int)) = .number false (a * 2 ^ (52 - a.log2)) ((a.log2 : Int) - 52) := by
  have hlo := Nat.log2_self_le h0
  have hhi : a < 2 ^ (a.log2 + 1) := Nat.lt_log2_self
  have hL : a.log2 ≤ 52 := by
    have : a.log2 < 53 := (Nat.log2_lt h0).2 (by have : (2 : Nat) ^ 53 = 9007199254740992 := by decide
                                                 omega)
    omega
  have e0 : floatOfInt .f64 (a : Int) = Ieee.double.nearest false a 0 := by
    show Ieee.double.nearest (decide ((a : Int) < 0)) (a : Int).natAbs 0 = _
    rw [decide_eq_false (by omega)]
    rfl
  have hl : lastP a 0 = (a.log2 : Int) - 52 := by unfold lastP; omega
  have hr := rung_eq h0 0
  rw [hl] at hr
  have e1 : ((a.log2 : Int) - 52 + 1074).toNat = a.log2 + 1022 := by omega
  have e2 : (0 - ((a.log2 : Int) - 52)).toNat = 52 - a.log2 := by omega
  have e3 : ((a.log2 : Int) - 52 - 0).toNat = 0 := by omega
  rw [e1, e2, e3, rnd_zero] at hr
  have k1 : 4503599627370496 ≤ a * 2 ^ (52 - a.log2) := by
    have : 2 ^ a.log2 * 2 ^ (52 - a.log2) ≤ a * 2 ^ (52 - a.log2) := Nat.mul_le_mul_right _ hlo
    rw [← Nat.pow_add, show a.log2 + (52 - a.log2) = 52 by omega] at this
    have e52 : (2 : Nat) ^ 52 = 4503599627370496 := by decide
    omega
  have k2 : a * 2 ^ (52 - a.log2) < 9007199254740992 := by
    have : a * 2 ^ (52 - a.log2) < 2 ^ (a.log2 + 1) * 2 ^ (52 - a.log2) := Nat.mul_lt_mul_of_pos_right hhi (Nat.two_pow_pos _)
    rw [← Nat.pow_add, show a.log2 + 1 + (52 - a.log2) = 53 by omega] at this
    have e53 : (2 : Nat) ^ 53 = 9007199254740992 := by decide
    omega
  generalize a * 2 ^ (52 - a.log2) = m at *
  generalize a.log2 = L at *
  have hfin : (L + 1022) * 4503599627370496 + m < 9218868437227405312 := by
    have h3 : (L + 1022) * 4503599627370496 ≤ 1074 * 4503599627370496 := Nat.mul_le_mul_right 4503599627370496 (show L + 1022 ≤ 1074 by omega)
    have h4 : 1074 * 4503599627370496 + 9007199254740992 ≤ 9218868437227405312 := by decide
    exact Nat.lt_of_lt_of_le (Nat.add_lt_add_of_le_of_lt h3 k2) h4
  rw [Nat.min_eq_left (Nat.le_of_lt hfin)] at hr
  have hx : floatOfInt .f64 (a : Int) = (L + 1022) * 4503599627370496 + m := by
    rw [e0, nearest_eq, hr]
    unfold Format.word
    rw [if_neg Bool.false_ne_true]
  rw [hx]
  obtain ⟨r, hm⟩ : ∃ r, m = 4503599627370496 + r := ⟨m - 4503599627370496, by omega⟩
  have hrlt : r < 4503599627370496 := by omega
  have hw : (L + 1022) * 4503599627370496 + m = (L + 1023) * 4503599627370496 + r := by rw [hm, show L + 1023 = L + 1022 + 1 by omega, Nat.add_mul (L + 1022) 1]; omega
  unfold Format.read
  rw [binade64, sign64, inf64, least64, hw]
  rw [hw] at hfin
  obtain ⟨X, hX⟩ : ∃ X, (L + 1023) * 4503599627370496 + r = X := ⟨_, rfl⟩
  rw [hX] at hfin ⊢
  have g1 : X / 4503599627370496 = L + 1023 := by rw [← hX, Nat.add_comm, Nat.add_mul_div_right _ _ (by decide), Nat.div_eq_of_lt hrlt, Nat.zero_add]
  have g2 : X % 4503599627370496 = r := by rw [← hX, Nat.add_comm, Nat.add_mul_mod_self_right, Nat.mod_eq_of_lt hrlt]
  have g3 : X % 9223372036854775808 = X := Nat.mod_eq_of_lt (by omega)
  have g4 : X / 9223372036854775808 = 0 := Nat.div_eq_of_lt (by omega)
  have g5 : ¬ X < 4503599627370496 := by
    intro h
    rw [Nat.div_eq_of_lt h] at g1
    omega
  have g6 : -1074 + ((L + 1023 - 1 : Nat) : Int) = (L : Int) - 52 := by omega
  simp only [g3, g4, g5, hfin, if_true, if_false, g1, g2, g6]
  rw [hm]
  rfl

/-- A quotient of two whole numbers. -/
theorem quo_rung {a n : Nat} (ha : a ≠ 0) (hn : n ≠ 0) (ha2 : a < 1073741824) (hn2 : n < 1073741824) : ∃ r, floatBits .quo .f64 (floatOfInt .f64 (a : Int)) (floatOfInt .f64 (n : Int)) = some r ∧ nanB r = false ∧ sgn r = false ∧ rg r = rung (qr (a * 2 ^ 84) n) (-85) := by
  have hLa : a.log2 ≤ 29 := by
    have : a.log2 < 30 := (Nat.log2_lt ha).2 (by have : (2 : Nat) ^ 30 = 1073741824 := by decide
                                                 omega)
    omega
  have hLn : n.log2 ≤ 29 := by
    have : n.log2 < 30 := (Nat.log2_lt hn).2 (by have : (2 : Nat) ^ 30 = 1073741824 := by decide
                                                 omega)
    omega
  have h1 := read_ofInt ha (by omega)
  have h2 := read_ofInt hn (by omega)
  have lA : (a * 2 ^ (52 - a.log2)).log2 = 52 := by rw [log2_scale ha]; omega
  have lN : (n * 2 ^ (52 - n.log2)).log2 = 52 := by rw [log2_scale hn]; omega
  have hN0 : n * 2 ^ (52 - n.log2) ≠ 0 := Nat.mul_ne_zero hn (Nat.pos_iff_ne_zero.1 (Nat.two_pow_pos _))
  unfold floatBits
  rw [f64_format]
  show ∃ r, ((Ieee.double.read _).quotient 54 (Ieee.double.read _)).map Ieee.double.write = some r ∧ _
  rw [h1, h2]
  simp only [Ieee.Datum.quotient, hN0, if_false, lA, lN, Nat.shiftLeft_eq]
  refine ⟨_, rfl, nan_nearest _ _ _, ?_, ?_⟩
  · show sgn (Ieee.double.nearest _ _ _) = _
    rw [sgn_nearest]
    rfl
  · show rg (Ieee.double.nearest _ (qr (a * 2 ^ (52 - a.log2) * 2 ^ (54 + 52 - 52)) (n * 2 ^ (52 - n.log2))) _) = _
    rw [rg_nearest]
    have e1 : a * 2 ^ (52 - a.log2) * 2 ^ (54 + 52 - 52) = a * 2 ^ (54 + n.log2 - a.log2) * 2 ^ (52 - n.log2) := by
      rw [Nat.mul_assoc, Nat.mul_assoc, ← Nat.pow_add, ← Nat.pow_add]
      congr 2
      omega
    rw [e1, qr_scale]
    have hbig : 9007199254740992 ≤ a * 2 ^ (54 + n.log2 - a.log2) / n := by
      rw [Nat.le_div_iff_mul_le (Nat.pos_of_ne_zero hn)]
      have k1 : 2 ^ a.log2 * 2 ^ (54 + n.log2 - a.log2) ≤ a * 2 ^ (54 + n.log2 - a.log2) := Nat.mul_le_mul_right _ (Nat.log2_self_le ha)
      rw [← Nat.pow_add, show a.log2 + (54 + n.log2 - a.log2) = 53 + (n.log2 + 1) by omega, Nat.pow_add] at k1
      have k2 : n < 2 ^ (n.log2 + 1) := Nat.lt_log2_self
      have e53 : (2 : Nat) ^ 53 = 9007199254740992 := by decide
      rw [e53] at k1
      exact Nat.le_trans (Nat.mul_le_mul_left _ (Nat.le_of_lt k2)) k1
    have hs := rung_steps (Nat.pos_of_ne_zero hn) hbig (-((54 + n.log2 - a.log2 : Nat) : Int) - 1) (84 - (54 + n.log2 - a.log2))
    rw [Nat.mul_assoc, ← Nat.pow_add, show 54 + n.log2 - a.log2 + (84 - (54 + n.log2 - a.log2)) = 84 by omega] at hs
    rw [show -((54 + n.log2 - a.log2 : Nat) : Int) - 1 - ((84 - (54 + n.log2 - a.log2) : Nat) : Int) = -85 by omega] at hs
    rw [hs]
    congr 1
    omega
end Go.Proofs.Ythpnlhbfginkjaa
