/- Marks of one value, blended; plain. -/
import Derived.Test.YthpnlhbfginkjaaDyPlain
import Derived.Test.YthpnlhbfginkjaaBlendSpec
namespace Go.Proofs.Ythpnlhbfginkjaa
open Ieee
open Go.RowKit
open Go.Lib (hid)

theorem rung_1074 : rung 9007199254740992 (((1074 : Nat) : Int) - 1074) < 9218868437227405312 := by decide +kernel
theorem rung_1071 : rung 9007199254740992 (((1071 : Nat) : Int) - 1074) < 9218868437227405312 := by decide +kernel

theorem dy_ofInt (n : Int) (h : few n) : Dy (floatOfInt .f64 n) 1074 n := by
  refine dy_of_rung rung_1074 h ?_
  have e : floatOfInt .f64 n = Ieee.double.nearest (decide (n < 0)) n.natAbs 0 := rfl
  rw [e, key_of_nearest]
  by_cases h0 : n < 0
  · rw [decide_eq_true h0, if_pos rfl, if_pos h0]; rfl
  · rw [decide_eq_false h0, if_neg (by simp), if_neg h0]; rfl

theorem dy_shift {x u : Nat} {m : Int} (j : Nat) (h : Dy x (u + j) m) : Dy x u (m * 2 ^ j) := by
  refine ⟨h.1, ?_⟩
  rw [h.2, Int.pow_add, Int.mul_assoc, Int.mul_comm (2 ^ u) (2 ^ j)]

theorem eighth (k : Int) (h0 : -128 ≤ k) (h1 : k ≤ 127) : ∃ v, floatBits .quo .f64 (floatOfInt .f64 k) 4620693217682128896 = some v ∧ Dy v 1071 k := by
  have hx : Dy (floatOfInt .f64 k) 1071 (k * 8) := dy_shift (u := 1071) 3 (dy_ofInt k (by unfold few; omega))
  have hy : Dy 4620693217682128896 1074 8 := by
    have e : (4620693217682128896 : Nat) = floatOfInt .f64 8 := by decide +kernel
    rw [e]
    exact dy_ofInt 8 (by unfold few; omega)
  exact dy_quo (u := 1071) (v := 1074) (w := 1071) rfl rung_1071 hx hy (by decide) (by unfold few; omega)

/-- Marks whose values are all one: what their sums are. -/
def SameL (k : Int) (es : List MarkD) (W : Int) : Prop := ∃ A B, blSum es = (some A, some B) ∧ Dy A 1071 (k * W) ∧ Dy B 1074 W ∧ (es.length : Int) ≤ W ∧ W ≤ 8 * es.length

theorem dy_zero (u : Nat) : Dy 0 u 0 := ⟨by decide, by show ival 0 = 0 * 2 ^ u; rw [Int.zero_mul]; decide⟩

theorem SameL.start (k : Int) : SameL k [] 0 := ⟨0, 0, rfl, by rw [Int.mul_zero]; exact dy_zero _, dy_zero _, by simp, by simp⟩

theorem blSum_put (es : List MarkD) (e : MarkD) : blSum (es ++ [e]) = blStep (blSum es) e := by
  unfold blSum
  rw [List.foldl_append]
  rfl

theorem SameL.put {k : Int} {es : List MarkD} {W : Int} (h : SameL k es W) (h0 : -128 ≤ k) (h1 : k ≤ 127) (hl : es.length ≤ 100) {v : Nat} (hv : Dy v 1071 k) {y : Int} (hy0 : 1 ≤ y) (hy1 : y ≤ 8) : SameL k (es ++ [MarkD.mk (floatOfInt .f64 y) v]) (W + y) := by
  obtain ⟨A, B, e1, hA, hB, hW0, hW1⟩ := h
  have hw := dy_ofInt y (by unfold few; omega)
  have hb1 : -110000 ≤ k * W := by
    have := Int.mul_le_mul_of_nonneg_right h0 (show 0 ≤ W by omega)
    omega
  have hb2 : k * W ≤ 110000 := by
    have := Int.mul_le_mul_of_nonneg_right h1 (show 0 ≤ W by omega)
    omega
  have hc1 : -1024 ≤ y * k := by
    have := Int.mul_le_mul_of_nonneg_left h0 (show 0 ≤ y by omega)
    omega
  have hc2 : y * k ≤ 1024 := by
    have := Int.mul_le_mul_of_nonneg_left h1 (show 0 ≤ y by omega)
    omega
  obtain ⟨p, m1, m2⟩ := dy_mul (u := 1074) (v := 1071) (w := 1071) rfl rung_1071 hw hv (by unfold few; omega)
  obtain ⟨A2, a1, a2⟩ := dy_add rung_1071 hA m2 (by unfold few; omega)
  obtain ⟨B2, b1, b2⟩ := dy_add rung_1074 hB hw (by unfold few; omega)
  refine ⟨A2, B2, ?_, ?_, b2, by rw [List.length_append]; simp; omega, by rw [List.length_append]; simp; omega⟩
  · rw [blSum_put, e1]
    unfold blStep bothF
    rw [show (finB (floatOfInt .f64 y) && finB v) = true by rw [hw.1, hv.1]; rfl, if_pos rfl]
    show (fop .add (some A) (floatBits .mul .f64 (floatOfInt .f64 y) v), floatBits .add .f64 B (floatOfInt .f64 y)) = _
    rw [m1, b1]
    show (floatBits .add .f64 A p, some B2) = _
    rw [a1]
  · rw [Int.mul_add, Int.mul_comm k y]
    exact a2

theorem SameL.blend {k : Int} {es : List MarkD} {W : Int} (h : SameL k es W) (h0 : -128 ≤ k) (h1 : k ≤ 127) (hW : 0 < W) : ∃ r, (∀ fs, blSum fs = blSum es → fs.length ≤ 100 → blendO fs = some r) ∧ Dy r 1071 k := by
  obtain ⟨A, B, e1, hA, hB, hW0, hW1⟩ := h
  obtain ⟨r, r1, r2⟩ := dy_quo (u := 1071) (v := 1074) (w := 1071) (q := k) (n := W) rfl rung_1071 hA hB (by omega) (by unfold few; omega)
  refine ⟨r, fun fs hf hlen => ?_, r2⟩
  unfold blendO
  rw [if_pos hlen, hf, e1]
  exact r1

theorem fin_num {x : Nat} (h : finB x = true) : nanB x = false := by
  cases hn : nanB x with
  | false => rfl
  | true => rw [nan_notfin hn] at h; cases h

theorem dy_eq {x y u : Nat} {m : Int} (hx : Dy x u m) (hy : Dy y u m) : (FloatKind.f64.format.order x y == some .eq) = true := by
  rw [f64_format, order_key (fin_num hx.1) (fin_num hy.1), cmp_eq (dy_same hx hy)]
  rfl

theorem inf_out (s : Bool) : finB (Ieee.double.word s Ieee.double.infRung) = false := by cases s <;> decide +kernel

theorem quo_zero (t : Nat) (W : World) : finB (fb .quo t 0 W) = false := by
  cases hn : nanB t with
  | true => exact nan_notfin (fb_none (bits_nan_left .quo 0 hn) W)
  | false =>
    have h0 : Ieee.double.read 0 = .number false 0 (-1074) := by decide +kernel
    cases h : floatBits .quo .f64 t 0 with
    | none => exact nan_notfin (fb_none h W)
    | some r =>
      rw [fb_some h]
      unfold floatBits at h
      rw [f64_format] at h
      have h : ((Ieee.double.read t).quotient 54 (Ieee.double.read 0)).map Ieee.double.write = some r := h
      rw [h0] at h
      rcases read_some hn with ⟨m, e, g1, _, _⟩ | g1
      · rw [g1] at h
        simp only [Ieee.Datum.quotient] at h
        rw [if_pos trivial] at h
        by_cases hm : m = 0
        · rw [if_pos hm] at h; cases h
        · rw [if_neg hm] at h
          have h : some (Ieee.double.word (sgn t ^^ false) Ieee.double.infRung) = some r := h
          rw [← Option.some.inj h]
          exact inf_out _
      · rw [g1] at h
        simp only [Ieee.Datum.quotient] at h
        have h : some (Ieee.double.word (sgn t ^^ false) Ieee.double.infRung) = some r := h
        rw [← Option.some.inj h]
        exact inf_out _
end Go.Proofs.Ythpnlhbfginkjaa
