/- The next number up: its digits, and its digits put together again. -/
import Derived.Test.YthpnlhbfginkjaaAbovePlain
import Derived.Test.YthpnlhbfginkjaaFloatTwo
namespace Go.Proofs.Ythpnlhbfginkjaa
open Go.RowKit
open Go.Lib (hid)

theorem run_fnegA {P : Program} (w : World) (b : Nat) : (Op.unary .neg (.float .f64 b)).run P w = .ok (.float .f64 (Op.negFloat .f64 b)) w := rfl

attribute [local go_sem] run_fadd run_fsub run_fmul run_fquo run_fnegA

theorem wrap_i (n : Int) (h : -9223372036854775808 ≤ n) (h2 : n ≤ 9223372036854775807) : wrap64 n = n := by unfold wrap64; omega

set_option maxHeartbeats 1000000 in
/-- l15Scaled. -/
theorem scaled_spec (m : Nat) (hm : m ≤ 9007199254740992) (q : Int) (hq0 : -1074 ≤ q) (hq1 : q ≤ 971) (w : World) :
    Calls Try.prog 71 #[.int .u64 m, .int .i64 q] w fun e w' => e = .returned (.float .f64 (rung m q)) ∧ w' = w := by
  have HM := hid hm
  have e0 := ofInt_rung m
  clear hm
  go_enter Try.func71, Try.ntmps71
  go_wp2
  go_loopw [1, 5] (fun qv xv wr => ∃ p : Int, 0 ≤ p ∧ (p ≤ q ∨ p = 0) ∧ qv = .int .i64 (q - p) ∧ xv = .float .f64 (rung m p) ∧ w = wr) (fun qv _ _ => (RowKit.intOf qv).toNat)
  case atStart => exact ⟨0, by omega, by omega, by rw [Int.sub_zero], by first | rfl | rw [e0], rfl⟩
  case round =>
    obtain ⟨p, hp0, hp1, rfl, rfl, rfl⟩ := hrel
    by_cases hlt : 0 < q - p
    · have hs := step_up HM.out (p := p) (by omega)
      have h1 := fb_some hs
      have h2 := fw_some hs
      clear hs
      go_wp2
      go_roundw
      case rel => exact ⟨p + 1, by omega, by omega, by go_num, by first | rfl | rw [h1], by first | trivial | rw [h2]⟩
      case measure => simp [RowKit.intOf]; omega
    · go_wp2
      go_loopw [1, 5] (fun qv xv wr => ∃ t : Int, q ≤ t ∧ -1074 ≤ t ∧ (t ≤ 0 ∨ t = q) ∧ qv = .int .i64 (q - t) ∧ xv = .float .f64 (rung m t) ∧ w = wr) (fun qv _ _ => (- (RowKit.intOf qv)).toNat)
      case atStart => exact ⟨p, by omega, by omega, by omega, rfl, rfl, rfl⟩
      case round =>
        obtain ⟨t, ht0, ht1, ht2, rfl, rfl, rfl⟩ := hrel
        by_cases hlt2 : q - t < 0
        · have hs := step_down HM.out (p := t) (by omega) (rung_low HM.out (by omega) (by omega))
          have h1 := fb_some hs
          have h2 := fw_some hs
          clear hs
          go_wp2
          go_roundw
          case rel => exact ⟨t - 1, by omega, by omega, by omega, by go_num, by first | rfl | rw [h1], by first | trivial | rw [h2]⟩
          case measure => simp [RowKit.intOf]; omega
        · obtain rfl : t = q := by omega
          go_wp2
          go_ret
          exact ⟨rfl, rfl⟩

theorem ord_ltF {x y : Nat} (hx : x < 9218868437227405312) (hy : y < 9218868437227405312) : FloatKind.f64.format.order x y = some (compare (x : Int) y) := by
  have f : ∀ z : Nat, z < 9218868437227405312 → nanB z = false ∧ fkey z = z := by
    intro z hz
    have hb : z < 9223372036854775808 := by omega
    refine ⟨by unfold nanB; rw [rg_small hb]; exact decide_eq_false (by omega), ?_⟩
    unfold fkey
    rw [sgn_small hb, rg_small hb]
    rfl
  rw [f64_format, order_key (f x hx).1 (f y hy).1, (f x hx).2, (f y hy).2]

theorem lt_yes {x y : Nat} (hx : x < 9218868437227405312) (hy : y < 9218868437227405312) (h : x < y) : (FloatKind.f64.format.order x y == some .lt) = true := by
  rw [ord_ltF hx hy, cmp_lt (by omega)]; rfl
theorem lt_no {x y : Nat} (hx : x < 9218868437227405312) (hy : y < 9218868437227405312) (h : y ≤ x) : (FloatKind.f64.format.order x y == some .lt) = false := by
  rw [ord_ltF hx hy]
  rcases Nat.lt_or_eq_of_le h with g | g
  · rw [cmp_gt (by omega)]; rfl
  · rw [cmp_eq (by omega)]; rfl
theorem ge_yes {x y : Nat} (hx : x < 9218868437227405312) (hy : y < 9218868437227405312) (h : y ≤ x) : (FloatKind.f64.format.order x y == some .gt || FloatKind.f64.format.order x y == some .eq) = true := by
  rw [ord_ltF hx hy]
  rcases Nat.lt_or_eq_of_le h with g | g
  · rw [cmp_gt (by omega)]; rfl
  · rw [cmp_eq (by omega)]; rfl
theorem ge_no {x y : Nat} (hx : x < 9218868437227405312) (hy : y < 9218868437227405312) (h : x < y) : (FloatKind.f64.format.order x y == some .gt || FloatKind.f64.format.order x y == some .eq) = false := by
  rw [ord_ltF hx hy, cmp_lt (by omega)]; rfl

/-- Digits of more than nought, and few enough. -/
structure Digits (m : Nat) (q : Int) : Prop where
  m1 : m < 9007199254740992
  q0 : -1074 ≤ q
  q1 : q ≤ 971
  st : 4503599627370496 ≤ m ∨ q = -1074
  fin : rung m q < 9218868437227405312

theorem dig_fin {m : Nat} {q p : Int} (h : Digits m q) (h0 : q ≤ p) (h1 : p ≤ 0 ∨ p = q) : rung m p < 9218868437227405312 := by
  rcases h1 with h1 | h1
  · exact rung_low (Nat.le_of_lt h.m1) (by have := h.q0; omega) h1
  · rw [h1]; exact h.fin

theorem dig_down {m : Nat} {q p : Int} (h : Digits m q) (hq : 0 < q) (h0 : 0 ≤ p) (h1 : p ≤ q) : rung m p = (p + 1074).toNat * 4503599627370496 + m ∧ rung m p < 9218868437227405312 := by
  have hm : 4503599627370496 ≤ m := by have := h.st; omega
  have e1 := norm_rung (p := q) h.m1 h.q0 (.inl hm)
  have e2 := norm_rung (p := p) h.m1 (by omega) (.inl hm)
  have hf := h.fin
  have k : (p + 1074).toNat * 4503599627370496 ≤ (q + 1074).toNat * 4503599627370496 := Nat.mul_le_mul_right _ (by omega)
  rw [e1] at hf
  have hlt : (q + 1074).toNat * 4503599627370496 + m < 9218868437227405312 := by
    rcases Nat.lt_or_ge ((q + 1074).toNat * 4503599627370496 + m) 9218868437227405312 with g | g
    · exact g
    · rw [Nat.min_eq_right g] at hf
      exact absurd hf (Nat.lt_irrefl _)
  have hlt2 : (p + 1074).toNat * 4503599627370496 + m < 9218868437227405312 := Nat.lt_of_le_of_lt (Nat.add_le_add_right k m) hlt
  rw [e2, Nat.min_eq_left (Nat.le_of_lt hlt2)]
  exact ⟨rfl, hlt2⟩

/-- Below place nought it is less than 2 to 52. -/
theorem dig_lt {m : Nat} {q p : Int} (h : Digits m q) (h0 : q ≤ p) (h1 : p < 0) : (FloatKind.f64.format.order (rung m p) 4841369599423283200 == some .lt) = true := by
  have hf := dig_fin h h0 (.inl (by omega))
  refine lt_yes hf (by decide) ?_
  have h2 := rung_top h.m1 (p := p) (by have := h.q0; omega)
  have h3 : ((p + 1074).toNat + 2) * 4503599627370496 ≤ 1075 * 4503599627370496 := Nat.mul_le_mul_right _ (by omega)
  omega

/-- From place nought on it is not, but for the least. -/
theorem dig_ge {m : Nat} {q p : Int} (h : Digits m q) (hm : 4503599627370496 ≤ m) (h0 : q ≤ p) (h1 : 0 ≤ p) (h2 : p ≤ 0 ∨ p = q) : (FloatKind.f64.format.order (rung m p) 4841369599423283200 == some .lt) = false := by
  have hf := dig_fin h h0 h2
  refine lt_no hf (by decide) ?_
  have e2 := norm_rung (p := p) h.m1 (by omega) (.inl hm)
  rw [e2]
  have h3 : 1074 * 4503599627370496 ≤ (p + 1074).toNat * 4503599627370496 := Nat.mul_le_mul_right _ (by omega)
  exact Nat.le_min.2 ⟨by omega, by decide⟩

/-- At place nought it is less than 2 to 53, above it is not. -/
theorem dig_zero {m : Nat} {q : Int} (h : Digits m q) : (FloatKind.f64.format.order (rung m 0) 4845873199050653696 == some .gt || FloatKind.f64.format.order (rung m 0) 4845873199050653696 == some .eq) = false := by
  refine ge_no (rung_low (Nat.le_of_lt h.m1) (by decide) (by decide)) (by decide) ?_
  have h2 := rung_top h.m1 (p := 0) (by decide)
  have h3 : ((0 : Int) + 1074).toNat = 1074 := by decide
  rw [h3] at h2
  omega
theorem dig_one {m : Nat} {q p : Int} (h : Digits m q) (hq : 0 < q) (h0 : 1 ≤ p) (h1 : p ≤ q) : (FloatKind.f64.format.order (rung m p) 4845873199050653696 == some .gt || FloatKind.f64.format.order (rung m p) 4845873199050653696 == some .eq) = true := by
  obtain ⟨e, hf⟩ := dig_down h hq (by omega) h1
  refine ge_yes hf (by decide) ?_
  have hm : 4503599627370496 ≤ m := by have := h.st; omega
  have h3 : 1075 * 4503599627370496 ≤ (p + 1074).toNat * 4503599627370496 := Nat.mul_le_mul_right _ (by omega)
  rw [e]
  omega

theorem dig_whole {m : Nat} {q : Int} (h : Digits m q) : floatToIntVal .f64 (rung m 0) .u64 = some (m : Int) := by
  have hf := rung_low (Nat.le_of_lt h.m1) (p := 0) (by decide) (by decide)
  exact to_whole (T := ((0 : Int) + 1074).toNat) (by decide) hf (vr_rung (Nat.le_of_lt h.m1) (by decide) hf) h.m1

end Go.Proofs.Ythpnlhbfginkjaa
