/- Numbers of few digits and what is reckoned of them without rounding; plain. -/
import Derived.Test.YthpnlhbfginkjaaTickPlain
import Derived.Test.YthpnlhbfginkjaaAbovePlain
import Derived.Test.YthpnlhbfginkjaaQuoPlain
import Derived.Test.YthpnlhbfginkjaaNextPlain
namespace Go.Proofs.Ythpnlhbfginkjaa
open Ieee
open Go.RowKit

/-- A number that is m times 2 to u least places. -/
def Dy (x u : Nat) (m : Int) : Prop := finB x = true ∧ ival x = m * 2 ^ u

def few (m : Int) : Prop := -9007199254740992 ≤ m ∧ m ≤ 9007199254740992

theorem srung_dy (u : Nat) (m : Int) : srung (m * 2 ^ u) = if m < 0 then -(rung m.natAbs ((u : Int) - 1074) : Int) else rung m.natAbs ((u : Int) - 1074) := by
  have hp : (0 : Int) < 2 ^ u := Int.pow_pos (by decide)
  have hab : (m * 2 ^ u).natAbs = m.natAbs * 2 ^ u := by rw [Int.natAbs_mul, Int.natAbs_pow]; rfl
  have hs := rung_scale m.natAbs u ((u : Int) - 1074)
  rw [show (u : Int) - 1074 - (u : Int) = -1074 by omega] at hs
  unfold srung
  rw [hab, hs]
  by_cases h : m < 0
  · rw [if_pos h, if_pos (Int.mul_neg_of_neg_of_pos h hp)]
  · rw [if_neg h, if_neg (by have := Int.mul_nonneg (Int.not_lt.1 h) (Int.le_of_lt hp); omega)]

theorem dy_of_rung {r u : Nat} {m : Int} (hu : rung 9007199254740992 ((u : Int) - 1074) < 9218868437227405312) (hm : few m) (hk : fkey r = if m < 0 then -(rung m.natAbs ((u : Int) - 1074) : Int) else rung m.natAbs ((u : Int) - 1074)) : Dy r u m := by
  have hab : m.natAbs ≤ 9007199254740992 := by unfold few at hm; omega
  have hf : rung m.natAbs ((u : Int) - 1074) < 9218868437227405312 := Nat.lt_of_le_of_lt (rung_mono hab _) hu
  have hv := vr_rung hab (p := (u : Int) - 1074) (by omega) hf
  rw [show ((u : Int) - 1074 + 1074).toNat = u by omega] at hv
  have hrg : rg r = rung m.natAbs ((u : Int) - 1074) := by
    unfold fkey at hk
    have hrl := rg_lt0 r
    by_cases h1 : m < 0
    · rw [if_pos h1] at hk
      by_cases h2 : sgn r = true
      · rw [if_pos h2] at hk; omega
      · rw [if_neg h2] at hk; omega
    · rw [if_neg h1] at hk
      by_cases h2 : sgn r = true
      · rw [if_pos h2] at hk; omega
      · rw [if_neg h2] at hk; omega
  refine ⟨by unfold finB; rw [hrg]; exact decide_eq_true hf, ?_⟩
  have e1 : ((m.natAbs * 2 ^ u : Nat) : Int) = (m.natAbs : Int) * 2 ^ u := by rw [Int.natCast_mul, Int.natCast_pow]; rfl
  unfold ival
  rw [hrg, hv]
  unfold fkey at hk
  rw [hrg] at hk
  by_cases h0 : m = 0
  · subst h0
    simp
  · have hpos : 0 < rung m.natAbs ((u : Int) - 1074) := by
      rcases Nat.eq_zero_or_pos (rung m.natAbs ((u : Int) - 1074)) with hz | hz
      · rw [hz, vr_zero] at hv
        have h2 : 0 < m.natAbs * 2 ^ u := Nat.mul_pos (by omega) (Nat.two_pow_pos _)
        omega
      · exact hz
    by_cases h1 : m < 0
    · rw [if_pos h1] at hk
      by_cases h2 : sgn r = true
      · rw [if_pos h2, e1, show (m.natAbs : Int) = -m by omega, Int.neg_mul, Int.neg_neg]
      · rw [if_neg h2] at hk; omega
    · rw [if_neg h1] at hk
      by_cases h2 : sgn r = true
      · rw [if_pos h2] at hk; omega
      · rw [if_neg h2, e1, show (m.natAbs : Int) = m by omega]

theorem dy_add {x y u : Nat} {m n : Int} (hu : rung 9007199254740992 ((u : Int) - 1074) < 9218868437227405312) (hx : Dy x u m) (hy : Dy y u n) (hmn : few (m + n)) : ∃ r, floatBits .add .f64 x y = some r ∧ Dy r u (m + n) := by
  obtain ⟨r, h1, _, h3⟩ := add_key hx.1 hy.1
  rw [hx.2, hy.2, ← Int.add_mul, srung_dy u] at h3
  exact ⟨r, h1, dy_of_rung hu hmn h3⟩

/-- Two that are the same number are equal to the code. -/
theorem dy_same {x y u : Nat} {m : Int} (hx : Dy x u m) (hy : Dy y u m) : fkey x = fkey y := by
  rw [← srung_ival hx.1, ← srung_ival hy.1, hx.2, hy.2]

theorem dy_abs {x u : Nat} {m : Int} (hx : Dy x u m) : vr (rg x) = m.natAbs * 2 ^ u := by
  have h := hx.2
  unfold ival at h
  have h2 : (m * 2 ^ u).natAbs = m.natAbs * 2 ^ u := by rw [Int.natAbs_mul, Int.natAbs_pow]; rfl
  rw [← h2, ← h]
  by_cases h1 : sgn x = true
  · rw [if_pos h1]; omega
  · rw [if_neg h1]; omega

theorem dy_sign {x u : Nat} {m : Int} (hx : Dy x u m) (h0 : m ≠ 0) : sgn x = decide (m < 0) := by
  have h := hx.2
  have ha := dy_abs hx
  have hp : (0 : Int) < 2 ^ u := Int.pow_pos (by decide)
  have hpos : 0 < vr (rg x) := by rw [ha]; exact Nat.mul_pos (by omega) (Nat.two_pow_pos _)
  unfold ival at h
  by_cases h1 : sgn x = true
  · rw [if_pos h1] at h
    rw [h1]
    refine (decide_eq_true ?_).symm
    rcases Int.lt_or_le m 0 with hl | hl
    · exact hl
    · have := Int.mul_nonneg hl (Int.le_of_lt hp)
      omega
  · rw [if_neg h1] at h
    rw [Bool.not_eq_true] at h1
    rw [h1]
    refine (decide_eq_false ?_).symm
    intro hl
    have := Int.mul_neg_of_neg_of_pos hl hp
    omega

theorem dy_mul {x y u v w : Nat} {m n : Int} (hw : u + v = w + 1074) (hu : rung 9007199254740992 ((w : Int) - 1074) < 9218868437227405312) (hx : Dy x u m) (hy : Dy y v n) (hmn : few (m * n)) : ∃ r, floatBits .mul .f64 x y = some r ∧ Dy r w (m * n) := by
  obtain ⟨a, e, g1, g2⟩ := read_fin hx.1
  obtain ⟨b, f, g3, g4⟩ := read_fin hy.1
  rw [dy_abs hx] at g2
  rw [dy_abs hy] at g4
  have hr : rung (a * b) (-1074 + (e : Int) + (-1074 + (f : Int))) = rung (m * n).natAbs ((w : Int) - 1074) := by
    have s1 := rung_scale (a * b) (e + f) (-1074 + (e : Int) + (-1074 + (f : Int)))
    have s2 := rung_scale (m * n).natAbs (u + v) ((w : Int) - 1074)
    rw [← s1, ← s2]
    have e1 : a * b * 2 ^ (e + f) = (m * n).natAbs * 2 ^ (u + v) := by
      rw [Nat.pow_add, Nat.pow_add, Int.natAbs_mul, show a * b * (2 ^ e * 2 ^ f) = a * 2 ^ e * (b * 2 ^ f) by ac_rfl, g2, g4]
      ac_rfl
    rw [e1]
    congr 1
    omega
  unfold floatBits
  rw [f64_format]
  show ∃ r, ((Ieee.double.read x).product (Ieee.double.read y)).map Ieee.double.write = some r ∧ _
  rw [g1, g3]
  refine ⟨_, rfl, dy_of_rung hu hmn ?_⟩
  show fkey (Ieee.double.nearest _ _ _) = _
  rw [key_of_nearest, hr]
  by_cases hz : m * n = 0
  · rw [hz]
    simp [rung_zero]
  · have hm0 : m ≠ 0 := fun h => hz (by rw [h, Int.zero_mul])
    have hn0 : n ≠ 0 := fun h => hz (by rw [h, Int.mul_zero])
    rw [dy_sign hx hm0, dy_sign hy hn0]
    rcases Int.lt_or_lt_of_ne hm0 with h1 | h1
    · rcases Int.lt_or_lt_of_ne hn0 with h2 | h2
      · have h3 := Int.mul_pos_of_neg_of_neg h1 h2
        rw [decide_eq_true h1, decide_eq_true h2, if_neg (by simp), if_neg (by omega)]
      · have h3 := Int.mul_neg_of_neg_of_pos h1 h2
        rw [decide_eq_true h1, decide_eq_false (by omega), if_pos (by simp), if_pos h3]
    · rcases Int.lt_or_lt_of_ne hn0 with h2 | h2
      · have h3 := Int.mul_neg_of_pos_of_neg h1 h2
        rw [decide_eq_false (by omega), decide_eq_true h2, if_pos (by simp), if_pos h3]
      · have h3 := Int.mul_pos h1 h2
        rw [decide_eq_false (by omega), decide_eq_false (by omega), if_neg (by simp), if_neg (by omega)]

theorem dy_quo {x y u v w : Nat} {q n : Int} (hw : u + 1074 = w + v) (hu : rung 9007199254740992 ((w : Int) - 1074) < 9218868437227405312) (hx : Dy x u (q * n)) (hy : Dy y v n) (hn0 : n ≠ 0) (hq : few q) : ∃ r, floatBits .quo .f64 x y = some r ∧ Dy r w q := by
  obtain ⟨a, e, g1, g2⟩ := read_fin hx.1
  obtain ⟨b, f, g3, g4⟩ := read_fin hy.1
  rw [dy_abs hx] at g2
  rw [dy_abs hy] at g4
  have hb0 : b ≠ 0 := fun h => by
    rw [h, Nat.zero_mul] at g4
    have : 0 < n.natAbs * 2 ^ v := Nat.mul_pos (by omega) (Nat.two_pow_pos _)
    omega
  unfold floatBits
  rw [f64_format]
  show ∃ r, ((Ieee.double.read _).quotient 54 (Ieee.double.read _)).map Ieee.double.write = some r ∧ _
  rw [g1, g3]
  simp only [Ieee.Datum.quotient, hb0, if_false, Nat.shiftLeft_eq]
  refine ⟨_, rfl, dy_of_rung hu hq ?_⟩
  show fkey (Ieee.double.nearest _ (qr (a * 2 ^ (54 + b.log2 - a.log2)) b) _) = _
  rw [key_of_nearest]
  by_cases hz : q = 0
  · subst hz
    rw [Int.zero_mul] at g2
    have ha : a = 0 := by
      rcases Nat.mul_eq_zero.1 (g2.trans (by simp)) with h | h
      · exact h
      · exact absurd h (Nat.pos_iff_ne_zero.1 (Nat.two_pow_pos _))
    subst ha
    rw [Nat.zero_mul, show qr 0 b = 0 by unfold qr; simp]
    simp [rung_zero]
  · have hQ : q.natAbs ≤ 9007199254740992 := by unfold few at hq; omega
    have ha0 : a ≠ 0 := fun h => by
      rw [h, Nat.zero_mul, Int.natAbs_mul] at g2
      have : 0 < q.natAbs * n.natAbs * 2 ^ u := Nat.mul_pos (Nat.mul_pos (by omega) (by omega)) (Nat.two_pow_pos _)
      omega
    have heq : a * 2 ^ (e + v) = q.natAbs * b * 2 ^ (u + f) := by
      rw [Nat.pow_add, Nat.pow_add, ← Nat.mul_assoc, g2, Int.natAbs_mul, show q.natAbs * b * (2 ^ u * 2 ^ f) = q.natAbs * 2 ^ u * (b * 2 ^ f) by ac_rfl, g4]
      ac_rfl
    have hle : e + v ≤ u + f + (54 + b.log2 - a.log2) := by
      have h1 : 2 ^ (a.log2 + (e + v)) ≤ a * 2 ^ (e + v) := by
        rw [Nat.pow_add]
        exact Nat.mul_le_mul_right _ (Nat.log2_self_le ha0)
      have h2 : q.natAbs * b * 2 ^ (u + f) < 2 ^ (53 + (b.log2 + 1) + (u + f)) := by
        rw [Nat.pow_add 2 (53 + (b.log2 + 1)) (u + f), Nat.pow_add 2 53 (b.log2 + 1)]
        refine Nat.mul_lt_mul_of_pos_right ?_ (Nat.two_pow_pos _)
        have k2 : b < 2 ^ (b.log2 + 1) := Nat.lt_log2_self
        have e53 : (2 : Nat) ^ 53 = 9007199254740992 := by decide
        rw [e53]
        exact Nat.lt_of_le_of_lt (Nat.mul_le_mul_right _ hQ) (Nat.mul_lt_mul_of_pos_left k2 (by decide))
      rw [← heq] at h2
      have h3 := (Nat.pow_lt_pow_iff_right (by decide : 1 < 2)).1 (Nat.lt_of_le_of_lt h1 h2)
      omega
    obtain ⟨t, ht⟩ : ∃ t, u + f + (54 + b.log2 - a.log2) = e + v + t := ⟨_, (Nat.add_sub_cancel' hle).symm⟩
    have hA : a * 2 ^ (54 + b.log2 - a.log2) = q.natAbs * 2 ^ t * b := by
      refine Nat.eq_of_mul_eq_mul_right (Nat.two_pow_pos (e + v)) ?_
      calc a * 2 ^ (54 + b.log2 - a.log2) * 2 ^ (e + v) = a * 2 ^ (e + v) * 2 ^ (54 + b.log2 - a.log2) := by ac_rfl
        _ = q.natAbs * b * (2 ^ (u + f) * 2 ^ (54 + b.log2 - a.log2)) := by rw [heq, Nat.mul_assoc]
        _ = q.natAbs * b * 2 ^ (e + v + t) := by rw [← Nat.pow_add, ht]
        _ = q.natAbs * 2 ^ t * b * 2 ^ (e + v) := by rw [Nat.pow_add]; ac_rfl
    have hqr : qr (a * 2 ^ (54 + b.log2 - a.log2)) b = q.natAbs * 2 ^ (t + 1) := by
      rw [hA]
      unfold qr
      rw [Nat.mul_div_cancel _ (Nat.pos_of_ne_zero hb0), Nat.mul_mod_left, Nat.pow_succ]
      simp
      ac_rfl
    have hr : ∀ P : Int, P = (w : Int) - 1074 - ((t + 1 : Nat) : Int) → rung (qr (a * 2 ^ (54 + b.log2 - a.log2)) b) P = rung q.natAbs ((w : Int) - 1074) := fun P hP => by
      rw [hqr, hP]
      exact rung_scale q.natAbs (t + 1) ((w : Int) - 1074)
    rw [hr _ (by omega)]
    have hqn : q * n ≠ 0 := Int.mul_ne_zero hz hn0
    rw [dy_sign hx hqn, dy_sign hy hn0]
    rcases Int.lt_or_lt_of_ne hz with h1 | h1
    · rcases Int.lt_or_lt_of_ne hn0 with h2 | h2
      · have h3 := Int.mul_pos_of_neg_of_neg h1 h2
        rw [decide_eq_false (by omega), decide_eq_true h2, if_pos (by simp), if_pos h1]
      · have h3 := Int.mul_neg_of_neg_of_pos h1 h2
        rw [decide_eq_true h3, decide_eq_false (by omega), if_pos (by simp), if_pos h1]
    · rcases Int.lt_or_lt_of_ne hn0 with h2 | h2
      · have h3 := Int.mul_neg_of_pos_of_neg h1 h2
        rw [decide_eq_true h3, decide_eq_true h2, if_neg (by simp), if_neg (by omega)]
      · have h3 := Int.mul_pos h1 h2
        rw [decide_eq_false (by omega), decide_eq_false (by omega), if_neg (by simp), if_neg (by omega)]
end Go.Proofs.Ythpnlhbfginkjaa
