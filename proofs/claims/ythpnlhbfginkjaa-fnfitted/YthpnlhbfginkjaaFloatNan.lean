/- Which operations on floats give numbers: plain. -/
import Derived.Test.YthpnlhbfginkjaaFloatPlain
namespace Go.Proofs.Ythpnlhbfginkjaa
open Ieee
open Go.RowKit

theorem rg_word (s : Bool) (r : Nat) (h : r < 9223372036854775808) : rg (Ieee.double.word s r) = r := by
  unfold rg Format.word
  rw [sign64]
  cases s
  · exact Nat.mod_eq_of_lt h
  · show (9223372036854775808 + r) % _ = r
    rw [Nat.add_mod_left, Nat.mod_eq_of_lt h]

theorem sgn_word (s : Bool) (r : Nat) (h : r < 9223372036854775808) : sgn (Ieee.double.word s r) = s := by
  unfold sgn Format.word
  rw [sign64]
  cases s
  · rw [if_neg (by decide), Nat.div_eq_of_lt h]
    rfl
  · rw [if_pos rfl, Nat.add_div_left _ (by decide), Nat.div_eq_of_lt h]
    rfl

/-- The rung that a number is rounded to. -/
def rung (mag : Nat) (place : Int) : Nat := rg (Ieee.double.nearest false mag place)

theorem nearest_word (s : Bool) (mag : Nat) (place : Int) : ∃ r, r ≤ 9218868437227405312 ∧ Ieee.double.nearest s mag place = Ieee.double.word s r ∧ rung mag place = r := by
  unfold rung Format.nearest
  by_cases h : mag = 0
  · simp only [h, if_true]
    exact ⟨0, Nat.zero_le _, rfl, rg_word _ _ (by decide)⟩
  · simp only [h, if_false]
    rw [inf64]
    refine ⟨_, Nat.min_le_right _ _, rfl, rg_word _ _ ?_⟩
    exact Nat.lt_of_le_of_lt (Nat.min_le_right _ _) (by decide)

theorem rung_le (mag : Nat) (place : Int) : rung mag place ≤ 9218868437227405312 := by
  obtain ⟨r, h1, _, h3⟩ := nearest_word false mag place
  omega

theorem nearest_eq (s : Bool) (mag : Nat) (place : Int) : Ieee.double.nearest s mag place = Ieee.double.word s (rung mag place) := by
  obtain ⟨r, _, h2, h3⟩ := nearest_word s mag place
  rw [h2, h3]

theorem rg_nearest (s : Bool) (mag : Nat) (place : Int) : rg (Ieee.double.nearest s mag place) = rung mag place := by
  rw [nearest_eq, rg_word _ _ (Nat.lt_of_le_of_lt (rung_le _ _) (by decide))]

theorem sgn_nearest (s : Bool) (mag : Nat) (place : Int) : sgn (Ieee.double.nearest s mag place) = s := by
  rw [nearest_eq, sgn_word _ _ (Nat.lt_of_le_of_lt (rung_le _ _) (by decide))]

theorem nan_nearest (s : Bool) (mag : Nat) (place : Int) : nanB (Ieee.double.nearest s mag place) = false := by
  unfold nanB
  rw [rg_nearest]
  have := rung_le mag place
  exact decide_eq_false (by omega)

theorem nan_infinity (s : Bool) : nanB (Ieee.double.word s Ieee.double.infRung) = false := by
  rw [inf64]
  cases s <;> decide

theorem nan_ofInt (n : Int) : nanB (floatOfInt .f64 n) = false := nan_nearest _ _ _

/-- What a word that is no NaN stands for. -/
theorem read_some {x : Nat} (h : nanB x = false) : (∃ m e : Nat, Ieee.double.read x = .number (sgn x) m (-1074 + (e : Int)) ∧ m * 2 ^ e = vr (rg x) ∧ finB x = true) ∨ Ieee.double.read x = .infinity (sgn x) := by
  rcases fin_of h with h | h
  · obtain ⟨m, e, h1, h2⟩ := read_fin h
    exact .inl ⟨m, e, h1, h2, h⟩
  · exact .inr (read_inf h)

theorem vr_pos {r : Nat} (h : r ≠ 0) : 0 < vr r := by
  have := vr_lt (Nat.pos_of_ne_zero h)
  rw [vr_zero] at this
  exact this

theorem mul_some {x a : Nat} (hx : finB x = true) (hz : rg x ≠ 0) (ha : nanB a = false) : ∃ r, floatBits .mul .f64 x a = some r ∧ nanB r = false := by
  obtain ⟨m, e, h1, h2⟩ := read_fin hx
  have hm : m ≠ 0 := fun h => by
    have := vr_pos hz
    rw [← h2, h, Nat.zero_mul] at this
    exact absurd this (Nat.lt_irrefl _)
  unfold floatBits
  rw [f64_format]
  show ∃ r, ((Ieee.double.read x).product (Ieee.double.read a)).map Ieee.double.write = some r ∧ _
  rw [h1]
  rcases read_some ha with ⟨n, f, g1, _, _⟩ | g1
  · rw [g1]
    exact ⟨_, rfl, nan_nearest _ _ _⟩
  · rw [g1]
    show ∃ r, (if m = 0 then none else some (Datum.infinity _)).map Ieee.double.write = some r ∧ _
    rw [if_neg hm]
    exact ⟨_, rfl, nan_infinity _⟩

theorem add_some {y p : Nat} (hy : finB y = true) (hp : nanB p = false) : ∃ r, floatBits .add .f64 y p = some r ∧ nanB r = false := by
  obtain ⟨m, e, h1, h2⟩ := read_fin hy
  unfold floatBits
  rw [f64_format]
  show ∃ r, ((Ieee.double.read y).sum (Ieee.double.read p)).map Ieee.double.write = some r ∧ _
  rw [h1]
  rcases read_some hp with ⟨n, f, g1, _, _⟩ | g1
  · rw [g1]
    exact ⟨_, rfl, nan_nearest _ _ _⟩
  · rw [g1]
    exact ⟨_, rfl, nan_infinity _⟩
end Go.Proofs.Ythpnlhbfginkjaa
