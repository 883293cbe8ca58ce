/- Sums and products rise with what goes into them; what a right clock shows rises; the last tick of one; plain. -/
import Derived.Test.YthpnlhbfginkjaaFloatRound
import Derived.Test.YthpnlhbfginkjaaDriftBoth
namespace Go.Proofs.Ythpnlhbfginkjaa
open Ieee
open Go.RowKit

/-- The rung of a number with its sign. -/
def srung (t : Int) : Int := if t < 0 then -(rung t.natAbs (-1074) : Int) else rung t.natAbs (-1074)

theorem srung_mono {a b : Int} (h : a ≤ b) : srung a ≤ srung b := by
  unfold srung
  by_cases ha : a < 0
  · rw [if_pos ha]
    by_cases hb : b < 0
    · rw [if_pos hb]
      have := rung_mono (m := b.natAbs) (n := a.natAbs) (by omega) (-1074)
      omega
    · rw [if_neg hb]; omega
  · rw [if_neg ha, if_neg (by omega)]
    have := rung_mono (m := a.natAbs) (n := b.natAbs) (by omega) (-1074)
    omega

theorem key_of_nearest (neg : Bool) (m : Nat) (p : Int) : fkey (Ieee.double.nearest neg m p) = if neg then -(rung m p : Int) else rung m p := by
  unfold fkey
  rw [sgn_nearest, rg_nearest]

theorem vr_le {a b : Nat} (h : a ≤ b) : vr a ≤ vr b := by
  rcases Nat.lt_or_eq_of_le h with h | h
  · exact Nat.le_of_lt (vr_lt h)
  · rw [h]; exact Nat.le_refl _

theorem ival_le {a b : Nat} (h : fkey a ≤ fkey b) : ival a ≤ ival b := by
  unfold fkey at h
  unfold ival
  revert h
  cases sgn a <;> cases sgn b <;> simp only [if_true, if_false, Bool.false_eq_true] <;> intro h
  · have := vr_le (show rg a ≤ rg b by omega)
    omega
  · have h1 : rg a = 0 := by omega
    have h2 : rg b = 0 := by omega
    rw [h1, h2, vr_zero]
    decide
  · omega
  · have := vr_le (show rg b ≤ rg a by omega)
    omega

/-- A sum of two numbers. -/
theorem add_key {y p : Nat} (hy : finB y = true) (hp : finB p = true) : ∃ r, floatBits .add .f64 y p = some r ∧ nanB r = false ∧ fkey r = srung (ival y + ival p) := by
  obtain ⟨m, e, h1, h2⟩ := read_fin hy
  obtain ⟨n, f, g1, g2⟩ := read_fin hp
  unfold floatBits
  rw [f64_format]
  show ∃ r, ((Ieee.double.read y).sum (Ieee.double.read p)).map Ieee.double.write = some r ∧ _
  rw [h1, g1]
  refine ⟨_, rfl, nan_nearest _ _ _, ?_⟩
  have a1 : (-1074 + (e : Int) - min (-1074 + (e : Int)) (-1074 + (f : Int))).toNat = e - min e f := by omega
  have a2 : (-1074 + (f : Int) - min (-1074 + (e : Int)) (-1074 + (f : Int))).toNat = f - min e f := by omega
  have a3 : min (-1074 + (e : Int)) (-1074 + (f : Int)) = -1074 + (min e f : Nat) := by omega
  show fkey (Ieee.double.nearest _ (Int.natAbs (signed (sgn y) m _ + signed (sgn p) n _)) _) = _
  rw [key_of_nearest, a1, a2, a3]
  have hv : (signed (sgn y) m (e - min e f) + signed (sgn p) n (f - min e f)) * 2 ^ (min e f) = ival y + ival p := by
    rw [Int.add_mul, signed_scale _ _ _ _ (Nat.min_le_left _ _), signed_scale _ _ _ _ (Nat.min_le_right _ _), signed_eq, signed_eq, h2, g2]
    rfl
  rw [← hv]
  generalize signed (sgn y) m (e - min e f) + signed (sgn p) n (f - min e f) = T
  generalize min e f = k
  have hk : (0 : Int) < 2 ^ k := Int.pow_pos (by decide)
  have hr : rung (T * 2 ^ k).natAbs (-1074) = rung T.natAbs (-1074 + k) := by
    have e1 : (T * 2 ^ k).natAbs = T.natAbs * 2 ^ k := by rw [Int.natAbs_mul, Int.natAbs_pow]; rfl
    have e2 : (-1074 : Int) = (-1074 + (k : Int)) - k := by omega
    rw [e1]
    have := rung_scale T.natAbs k (-1074 + (k : Int))
    rw [← e2] at this
    exact this
  unfold srung
  rw [hr]
  by_cases h0 : T = 0
  · subst h0
    rw [Int.zero_mul, show (0 : Int).natAbs = 0 from rfl, rung_zero]
    have hz : ∀ t : Bool, (if t = true then -((0 : Nat) : Int) else ((0 : Nat) : Int)) = 0 := fun t => by cases t <;> rfl
    rw [hz]
    rfl
  · rw [if_neg h0]
    by_cases hneg : T < 0
    · have : T * 2 ^ k < 0 := Int.mul_neg_of_neg_of_pos hneg hk
      rw [if_pos this, decide_eq_true hneg, if_pos rfl]
    · have : ¬ T * 2 ^ k < 0 := by
        have := Int.mul_pos (show 0 < T by omega) hk
        omega
      rw [if_neg this, decide_eq_false hneg, if_neg (by decide)]

theorem add_inf {y p : Nat} (hy : finB y = true) (hp : nanB p = false) (hf : finB p = false) : floatBits .add .f64 y p = some (Ieee.double.word (sgn p) 9218868437227405312) := by
  obtain ⟨m, e, h1, h2⟩ := read_fin hy
  have hi : rg p = 9218868437227405312 := by
    rcases fin_of hp with h | h
    · rw [h] at hf; cases hf
    · exact h
  unfold floatBits
  rw [f64_format]
  show ((Ieee.double.read y).sum (Ieee.double.read p)).map Ieee.double.write = _
  rw [h1, read_inf hi]
  rfl

/-- A product of two numbers that are not below 0. -/
theorem mul_key {x a m e : Nat} (ha : finB a = true) (sa : sgn a = false) (h1 : Ieee.double.read x = .number false m (-1074 + (e : Int))) : ∃ r, floatBits .mul .f64 x a = some r ∧ nanB r = false ∧ sgn r = false ∧ rg r = rung (m * vr (rg a)) (-1074 + (e : Int) - 1074) := by
  obtain ⟨n, f, g1, g2⟩ := read_fin ha
  unfold floatBits
  rw [f64_format]
  show ∃ r, ((Ieee.double.read x).product (Ieee.double.read a)).map Ieee.double.write = some r ∧ _
  rw [h1, g1]
  refine ⟨_, rfl, nan_nearest _ _ _, ?_, ?_⟩
  · show sgn (Ieee.double.nearest _ _ _) = _
    rw [sgn_nearest, sa]
    rfl
  · show rg (Ieee.double.nearest _ _ _) = _
    rw [rg_nearest, ← g2, ← Nat.mul_assoc]
    have := rung_scale (m * n) f (-1074 + (e : Int) + (-1074 + (f : Int)))
    rw [show -1074 + (e : Int) + (-1074 + (f : Int)) - (f : Int) = -1074 + (e : Int) - 1074 by omega] at this
    exact this.symm

theorem sgn_pos {x : Nat} (h : FloatKind.f64.format.order x 0 = some .gt) : sgn x = false := by
  have hn : nanB x = false := by
    cases k : nanB x with
    | false => rfl
    | true => rw [ord_nan k] at h; cases h
  rw [f64_format, order_key hn (by decide)] at h
  have h0 : fkey 0 = 0 := by decide
  rw [h0] at h
  cases hs : sgn x with
  | false => rfl
  | true =>
    unfold fkey at h
    rw [hs, if_pos rfl] at h
    by_cases hz : rg x = 0
    · rw [hz, show compare (-((0 : Nat) : Int)) 0 = .eq by decide] at h; cases h
    · rw [cmp_lt (by omega)] at h; cases h

/-- Whole numbers as floats. -/
theorem ofInt_nat (n : Nat) : floatOfInt .f64 (n : Int) = Ieee.double.nearest false n 0 := by
  show Ieee.double.nearest (decide ((n : Int) < 0)) (n : Int).natAbs 0 = _
  rw [decide_eq_false (by omega)]
  rfl

theorem ofInt_fin {n : Nat} (h : n ≤ 1048576) : finB (floatOfInt .f64 (n : Int)) = true ∧ sgn (floatOfInt .f64 (n : Int)) = false ∧ rg (floatOfInt .f64 (n : Int)) = rung n 0 := by
  rw [ofInt_nat, sgn_nearest, rg_nearest]
  refine ⟨?_, rfl, rfl⟩
  unfold finB
  rw [rg_nearest]
  have h1 := rung_mono h 0
  have h2 : rung 1048576 0 < 9218868437227405312 := by decide
  exact decide_eq_true (by omega)

theorem key_nonneg {a : Nat} (h : sgn a = false) : fkey a = rg a := by unfold fkey; rw [h]; rfl

theorem key_word_inf : fkey (Ieee.double.word false 9218868437227405312) = 9218868437227405312 := by decide

theorem key_max {a : Nat} (h : nanB a = false) : fkey a ≤ 9218868437227405312 := by
  unfold nanB at h
  have h := of_decide_eq_false h
  unfold fkey
  split <;> omega

/-- WHAT A RIGHT CLOCK SHOWS RISES. -/
theorem shown_rises {x y : Nat} (h : drB x y = true) {s t : Nat} (hst : s ≤ t) (ht : t ≤ 1000000) : ∃ a b, shownO x y s = some a ∧ shownO x y t = some b ∧ nanB a = false ∧ nanB b = false ∧ fkey a ≤ fkey b := by
  obtain ⟨hx, hy, hz⟩ := dr_parts h
  have hpos : FloatKind.f64.format.order x 0 = some .gt := by
    unfold drB at h
    simp only [Bool.and_eq_true, beq_iff_eq] at h
    exact h.2
  have sx := sgn_pos hpos
  obtain ⟨m, e, h1, _⟩ := read_fin hx
  rw [sx] at h1
  obtain ⟨f1, f2, f3⟩ := ofInt_fin (show s ≤ 1048576 by omega)
  obtain ⟨g1, g2, g3⟩ := ofInt_fin (show t ≤ 1048576 by omega)
  obtain ⟨p, hp, np, sp, rp⟩ := mul_key f1 f2 h1
  obtain ⟨q, hq, nq, sq, rq⟩ := mul_key g1 g2 h1
  have hpq : rg p ≤ rg q := by
    rw [rp, rq, f3, g3]
    refine rung_mono (Nat.mul_le_mul_left m ?_) _
    have hr := rung_mono hst 0
    rcases Nat.lt_or_eq_of_le hr with hr | hr
    · exact Nat.le_of_lt (vr_lt hr)
    · rw [hr]; exact Nat.le_refl _
  have es : shownO x y s = floatBits .add .f64 y p := by
    unfold shownO
    rw [if_pos ⟨h, by omega, by omega⟩]
    show fop .add (some y) (floatBits .mul .f64 x (floatOfInt .f64 (s : Int))) = _
    rw [hp]
    rfl
  have et : shownO x y t = floatBits .add .f64 y q := by
    unfold shownO
    rw [if_pos ⟨h, by omega, by omega⟩]
    show fop .add (some y) (floatBits .mul .f64 x (floatOfInt .f64 (t : Int))) = _
    rw [hq]
    rfl
  rw [es, et]
  cases hfq : finB q with
  | false =>
    rw [add_inf hy nq hfq, sq]
    obtain ⟨a, ha, na⟩ := add_some hy np
    exact ⟨a, _, ha, rfl, na, by decide, by rw [key_word_inf]; exact key_max na⟩
  | true =>
    have hfp : finB p = true := by
      unfold finB at hfq ⊢
      have := of_decide_eq_true hfq
      exact decide_eq_true (by omega)
    obtain ⟨a, ha, na, ka⟩ := add_key hy hfp
    obtain ⟨b, hb, nb, kb⟩ := add_key hy hfq
    refine ⟨a, b, ha, hb, na, nb, ?_⟩
    rw [ka, kb]
    refine srung_mono ?_
    have : ival p ≤ ival q := ival_le (by rw [key_nonneg sp, key_nonneg sq]; omega)
    omega

/-- Does a clock show at most a number at a tick? -/
def atMost (x y shown : Nat) (t : Int) : Bool := ford (shownO x y t) (some shown) == some .lt || ford (shownO x y t) (some shown) == some .eq

theorem atMost_falls {x y shown : Nat} {s t : Int} (h0 : 0 ≤ s) (hst : s ≤ t) (ht : t ≤ 1000000) (h : atMost x y shown t = true) : atMost x y shown s = true := by
  obtain ⟨a, rfl⟩ := Int.eq_ofNat_of_zero_le h0
  obtain ⟨b, rfl⟩ := Int.eq_ofNat_of_zero_le (show 0 ≤ t by omega)
  unfold atMost at h ⊢
  cases hd : drB x y with
  | false =>
    have : shownO x y (b : Int) = none := by unfold shownO; rw [if_neg (by rw [hd]; simp)]
    rw [this] at h
    simp [ford] at h
  | true =>
    obtain ⟨p, q, hp, hq, np, nq, hk⟩ := shown_rises hd (show a ≤ b by omega) (by omega)
    rw [hp]
    rw [hq] at h
    have h : (FloatKind.f64.format.order q shown == some .lt || FloatKind.f64.format.order q shown == some .eq) = true := h
    show (FloatKind.f64.format.order p shown == some .lt || FloatKind.f64.format.order p shown == some .eq) = true
    cases hn : nanB shown with
    | true => rw [ord_nan' hn] at h; simp at h
    | false =>
      rw [f64_format, order_key nq hn] at h
      rw [f64_format, order_key np hn]
      rcases Int.lt_trichotomy (fkey q) (fkey shown) with g | g | g
      · rw [cmp_lt (by omega)]; rfl
      · rcases Int.lt_or_eq_of_le (show fkey p ≤ fkey shown by omega) with k | k
        · rw [cmp_lt k]; rfl
        · rw [cmp_eq k]; rfl
      · rw [cmp_gt g] at h; simp at h

/-- The last tick at which a clock shows at most a number. -/
def IsTick (x y shown : Nat) (k : Int) : Prop := -1 ≤ k ∧ k ≤ 1000000 ∧ (k = -1 ∨ atMost x y shown k = true) ∧ (k = 1000000 ∨ atMost x y shown (k + 1) = false)

theorem tick_one {x y shown : Nat} {j k : Int} (hj : IsTick x y shown j) (hk : IsTick x y shown k) : j = k := by
  obtain ⟨j1, j2, j3, j4⟩ := hj
  obtain ⟨k1, k2, k3, k4⟩ := hk
  rcases Int.lt_trichotomy j k with h | h | h
  · rcases j4 with j4 | j4
    · omega
    · rcases k3 with k3 | k3
      · omega
      · have := atMost_falls (s := j + 1) (t := k) (by omega) (by omega) k2 k3
        rw [this] at j4; cases j4
  · exact h
  · rcases k4 with k4 | k4
    · omega
    · rcases j3 with j3 | j3
      · omega
      · have := atMost_falls (s := k + 1) (t := j) (by omega) (by omega) j2 j3
        rw [this] at k4; cases k4
end Go.Proofs.Ythpnlhbfginkjaa
