/- Above: the specification's and the program's; the law. -/
import Derived.Test.YthpnlhbfginkjaaAboveBoth
namespace Go.Proofs.Ythpnlhbfginkjaa
open Go.RowKit
open Go.Lib (hid)

attribute [local go_sem] run_fadd run_fsub run_fmul run_fquo run_fnegA run_fbits run_ffrom

/-- What Above answers. -/
def aboveO (x : Nat) : Option Nat :=
  if nanB x = true then none
  else if x = 9218868437227405312 then some x
  else if rg x = 0 then some 1
  else if sgn x = true then some (x - 1) else some (x + 1)

theorem ord0 {x : Nat} (h : nanB x = false) : FloatKind.f64.format.order x 0 = some (compare (fkey x) 0) := by
  rw [f64_format, order_key h (by decide), show fkey 0 = 0 by decide]

theorem tests_pos {x : Nat} (h : nanB x = false) (h0 : 0 < fkey x) : (FloatKind.f64.format.order x 0 == some .gt) = true ∧ (FloatKind.f64.format.order x 0 == some .eq) = false ∧ (FloatKind.f64.format.order x 0 == some .lt) = false := by
  rw [ord0 h, cmp_gt h0]; exact ⟨rfl, rfl, rfl⟩
theorem tests_neg {x : Nat} (h : nanB x = false) (h0 : fkey x < 0) : (FloatKind.f64.format.order x 0 == some .gt) = false ∧ (FloatKind.f64.format.order x 0 == some .eq) = false ∧ (FloatKind.f64.format.order x 0 == some .lt) = true := by
  rw [ord0 h, cmp_lt h0]; exact ⟨rfl, rfl, rfl⟩
theorem tests_zero {x : Nat} (h : nanB x = false) (h0 : fkey x = 0) : (FloatKind.f64.format.order x 0 == some .gt) = false ∧ (FloatKind.f64.format.order x 0 == some .eq) = true ∧ (FloatKind.f64.format.order x 0 == some .lt) = false := by
  rw [ord0 h, cmp_eq h0]; exact ⟨rfl, rfl, rfl⟩

theorem ne_self {x : Nat} (h : nanB x = false) : (FloatKind.f64.format.order x x != some .eq) = false := by
  rw [ord_self h]; rfl
theorem ne_nan {x : Nat} (h : nanB x = true) : (FloatKind.f64.format.order x x != some .eq) = true := by
  rw [ord_nan h x]; rfl

theorem parts_great {r : Nat} (h : r < 9223372036854775808) : sgn (9223372036854775808 + r) = true ∧ rg (9223372036854775808 + r) = r := by
  constructor
  · unfold sgn
    rw [Nat.add_div_left _ (by decide), Nat.div_eq_of_lt h]
    rfl
  · unfold rg
    rw [Nat.add_mod_left, Nat.mod_eq_of_lt h]

/-- What there is: a NaN, the infinity, a nought, the other infinity, a number above nought, a number below. -/
theorem above_cases (x : Nat) (hx : x < 18446744073709551616) : nanB x = true ∨ (nanB x = false ∧ (x = 9218868437227405312 ∨ rg x = 0 ∨ (∃ r, 0 < r ∧ r ≤ 9218868437227405312 ∧ x = 9223372036854775808 + r) ∨ (0 < x ∧ x < 9218868437227405312))) := by
  cases hn : nanB x with
  | true => exact .inl rfl
  | false =>
    right
    refine ⟨rfl, ?_⟩
    have hw := word_ofA x hx
    unfold nanB at hn
    have hn := of_decide_eq_false hn
    by_cases h0 : rg x = 0
    · exact .inr (.inl h0)
    · cases hs : sgn x with
      | true =>
        rw [hs, if_pos rfl] at hw
        exact .inr (.inr (.inl ⟨rg x, by omega, by omega, hw⟩))
      | false =>
        rw [hs, if_neg (by decide)] at hw
        by_cases hi : x = 9218868437227405312
        · exact .inl hi
        · exact .inr (.inr (.inr ⟨by omega, by omega⟩))

theorem digits_of {r : Nat} (h0 : 0 < r) (h1 : r < 9218868437227405312) : ∃ (m : Nat) (q : Int), 0 < m ∧ Digits m q ∧ rung m q = r ∧ r = (q + 1074).toNat * 4503599627370496 + m := by
  obtain ⟨m, q, k0, k1, k2, k3, k4, k5⟩ := norm_of h0 h1
  have e : rung m q = r := by rw [norm_rung k1 k2 k4, ← k5, Nat.min_eq_left (Nat.le_of_lt h1)]
  exact ⟨m, q, k0, ⟨k1, k2, k3, k4, by rw [e]; exact h1⟩, e, k5⟩

theorem rung_up {m r : Nat} {q : Int} (hd : Digits m q) (h1 : r < 9218868437227405312) (h : r = (q + 1074).toNat * 4503599627370496 + m) : rung (m + 1) q = r + 1 := by
  have hm := hd.m1
  have hq := hd.q0
  have hs := hd.st
  by_cases h2 : m + 1 < 9007199254740992
  · rw [norm_rung h2 hq (by omega), ← Nat.add_assoc, ← h, Nat.min_eq_left h1]
  · have e := rung_double 4503599627370496 q
    have e2 : m + 1 = 4503599627370496 * 2 := by omega
    rw [e2, e, norm_rung (by decide) (by omega) (.inl (Nat.le_refl _))]
    have e3 : (q + 1 + 1074).toNat * 4503599627370496 + 4503599627370496 = r + 1 := by
      rw [show (q + 1 + 1074).toNat = (q + 1074).toNat + 1 by omega, Nat.add_mul]
      omega
    rw [e3, Nat.min_eq_left h1]

theorem rung_dn1 {r : Nat} {q : Int} (hq : -1074 < q) (h1 : r ≤ 9218868437227405312) (h : r = (q + 1074).toNat * 4503599627370496 + 4503599627370496) : rung 9007199254740991 (q - 1) = r - 1 := by
  rw [norm_rung (by decide) (by omega) (.inl (by decide))]
  have e3 : (q - 1 + 1074).toNat * 4503599627370496 + 9007199254740991 = r - 1 := by
    rw [h, show (q + 1074).toNat = (q - 1 + 1074).toNat + 1 by omega, Nat.add_mul]
    omega
  rw [e3]
  exact Nat.min_eq_left (by omega)

theorem rung_dn2 {m r : Nat} {q : Int} (hd : Digits m q) (hm0 : 0 < m) (h1 : r < 9218868437227405312) (h : r = (q + 1074).toNat * 4503599627370496 + m) (hc : m = 4503599627370496 → q = -1074) : rung (m - 1) q = r - 1 := by
  have hs := hd.st
  have hm := hd.m1
  rw [norm_rung (by omega) hd.q0 (by omega)]
  rw [show (q + 1074).toNat * 4503599627370496 + (m - 1) = r - 1 by omega]
  exact Nat.min_eq_left (by omega)

/-- A number that is known leaves the world as it is. -/
theorem known_fin {x : Nat} (hf : finB x = true) (w : World) : Calls Try.prog 34 #[.float .f64 x] w fun e w' => e = .returned (.bool true) ∧ w' = w := by
  have h := sub_self (x := x)
  rw [hf, if_pos rfl] at h
  have h1 := fb_some h
  have h2 := fw_some h
  have h3 : FloatKind.f64.format.order 0 0 = some .eq := by decide
  clear h
  go_enter Try.func34, Try.ntmps34
  go_wp2
  go_ret
  exact ⟨rfl, rfl⟩

theorem known_inf {x : Nat} (hf : finB x = false) (w : World) : Calls Try.prog 34 #[.float .f64 x] w fun e w' => e = .returned (.bool false) ∧ Below w.heap.size w w' := by
  have := known_spec x w
  rw [hf] at this
  exact this

theorem inf1_calls (x : Nat) (w : World) : Calls Try.prog 69 #[.float .f64 x, .int .i64 1] w fun e w' => e = .returned (.bool (FloatKind.f64.format.order x 9218868437227405311 == some .gt)) ∧ w' = w := by
  go_enter Try.func69, Try.ntmps69
  go_wp2
  go_ret
  exact ⟨rfl, rfl⟩

theorem inf1_key {x : Nat} (hn : nanB x = false) : (FloatKind.f64.format.order x 9218868437227405311 == some .gt) = decide (9218868437227405311 < fkey x) := by
  rw [f64_format, order_key hn (by decide), show fkey 9218868437227405311 = 9218868437227405311 by decide]
  rcases Int.lt_trichotomy (fkey x) 9218868437227405311 with g | g | g
  · rw [cmp_lt g, decide_eq_false (by omega)]; rfl
  · rw [cmp_eq g, decide_eq_false (by omega)]; rfl
  · rw [cmp_gt g, decide_eq_true g]; rfl

end Go.Proofs.Ythpnlhbfginkjaa
