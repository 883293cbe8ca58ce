/- Same, Sure, Fresh, Decay: the specification's and the program's. -/
import Derived.Test.YthpnlhbfginkjaaFloatOne
namespace Go.Proofs.Ythpnlhbfginkjaa
open Go.RowKit
open Go.Lib (hid)

attribute [local go_sem] run_fadd run_fsub run_fmul run_fquo run_fbits run_ffrom

/-- What Sure answers. -/
def sureO (good all : Int) : Option Nat := if 0 ≤ good ∧ good ≤ all ∧ all ≤ 1000000000 then fop .quo (some (floatOfInt .f64 (good + 1))) (some (floatOfInt .f64 (all + 2))) else none


/-- What Fresh answers. -/
def freshB (born now most : Nat) : Bool :=
  let d := fop .sub (some now) (some born)
  (ford d (some 0) == some .gt || ford d (some 0) == some .eq) && (ford d (some most) == some .lt || ford d (some most) == some .eq)


/-- A number halved so often. -/
def halvO (x : Nat) : Nat → Option Nat
  | 0 => some x
  | k + 1 => fop .mul (halvO x k) (some 4602678819172646912)

/-- What Decay answers. -/
def decO (x : Nat) (n : Int) : Option Nat := if 0 ≤ n ∧ n ≤ 3000 then halvO x n.toNat else none


/-- What Same answers. -/
def sameB (a b : Nat) : Bool := a == b || nanB a && nanB b

/-- A sign that is set, of a nought too. -/
def minusB (x : Nat) : Bool := !nanB x && sgn x

theorem lt_zero {x : Nat} (h : nanB x = false) (hz : rg x ≠ 0) : (FloatKind.f64.format.order x 0 == some .lt) = sgn x := by
  rw [f64_format, order_key h (by decide)]
  have h0 : fkey 0 = 0 := by decide
  rw [h0]
  unfold fkey
  cases sgn x
  · rw [if_neg (by decide), cmp_gt (by omega)]; rfl
  · rw [if_pos rfl, cmp_lt (by omega)]; rfl

theorem minus_spec (x : Nat) (w : World) : Calls Try.prog 51 #[.float .f64 x] w fun e w' => e = .returned (.bool (minusB x)) ∧ w' = w := by
  unfold minusB
  cases hn : nanB x with
  | true =>
    have h1 := ord_nan hn 0
    go_enter Try.func51, Try.ntmps51
    go_wp2
    go_ret
    exact ⟨rfl, rfl⟩
  | false =>
    by_cases hz : rg x = 0
    · have h1 := (zero_iff hn).2 hz
      have h3 := one_by hz
      have h4 := fb_some h3
      have h5 := fw_some h3
      have h6 := quo_gt x
      generalize (if sgn x then 18442240474082181120 else 9218868437227405312) = q at *
      clear h3 hz
      cases hs : sgn x with
      | true =>
        rw [hs, if_pos rfl] at h6
        go_enter Try.func51, Try.ntmps51
        go_wp2
        go_ret
        exact ⟨rfl, rfl⟩
      | false =>
        rw [hs, if_neg (by decide)] at h6
        go_enter Try.func51, Try.ntmps51
        go_wp2
        go_ret
        exact ⟨rfl, rfl⟩
    · have h1 := lt_zero hn hz
      have h2 : (FloatKind.f64.format.order x 0 == some .eq) = false := by
        have := (zero_iff hn).1
        cases h : (FloatKind.f64.format.order x 0 == some .eq) with
        | false => rfl
        | true => exact absurd (this (by simpa using h)) hz
      clear hz
      cases hs : sgn x with
      | true =>
        rw [hs] at h1
        go_enter Try.func51, Try.ntmps51
        go_wp2
        go_ret
        exact ⟨rfl, rfl⟩
      | false =>
        rw [hs] at h1
        go_enter Try.func51, Try.ntmps51
        go_wp2
        go_ret
        exact ⟨rfl, rfl⟩

theorem word_of (x : Nat) (hx : x < 18446744073709551616) : x = (if sgn x then 9223372036854775808 else 0) + rg x := by
  have h1 := Nat.div_add_mod x 9223372036854775808
  have h2 : x / 9223372036854775808 < 2 := (Nat.div_lt_iff_lt_mul (by decide)).2 hx
  unfold sgn rg
  rcases (by omega : x / 9223372036854775808 = 0 ∨ x / 9223372036854775808 = 1) with h | h
  · rw [h] at h1 ⊢
    rw [if_neg (by decide)]
    omega
  · rw [h] at h1 ⊢
    rw [if_pos (by decide)]
    omega

/-- Alike in order and sign: the same bits. -/
theorem same_iff {a b : Nat} (ha : a < 18446744073709551616) (hb : b < 18446744073709551616) (h1 : nanB a = false) (h2 : nanB b = false) : (FloatKind.f64.format.order a b == some .eq && (sgn a == sgn b)) = (a == b) := by
  rw [f64_format, order_key h1 h2]
  have ea := word_of a ha
  have eb := word_of b hb
  cases hab : (a == b) with
  | true =>
    have : a = b := by simpa using hab
    subst this
    rw [cmp_eq rfl]
    simp
  | false =>
    have hne : a ≠ b := by simpa using hab
    cases hs : (sgn a == sgn b) with
    | false => simp
    | true =>
      have hse : sgn a = sgn b := by simpa using hs
      have hr : rg a ≠ rg b := fun h => hne (by rw [ea, eb, hse, h])
      have hk : fkey a ≠ fkey b := by
        unfold fkey
        rw [hse]
        cases sgn b <;> simp <;> omega
      rcases Int.lt_trichotomy (fkey a) (fkey b) with g | g | g
      · rw [cmp_lt g]; rfl
      · exact absurd g hk
      · rw [cmp_gt g]; rfl

set_option maxHeartbeats 1000000 in
theorem same_spec (a b : Nat) (ha : nanB a = false → a < 18446744073709551616) (hb : nanB b = false → b < 18446744073709551616) (w : World) : Calls Try.prog 23 #[.float .f64 a, .float .f64 b] w fun e w' => e = .returned (.bool (sameB a b)) ∧ w' = w := by
  have C1 := fun W => minus_spec a W
  have C2 := fun W => minus_spec b W
  unfold sameB
  unfold minusB at C1 C2
  cases h1 : nanB a with
  | true =>
    have e1 := ord_nan h1 a
    cases h2 : nanB b with
    | true =>
      have e2 := ord_nan h2 b
      go_enter Try.func23, Try.ntmps23
      go_wp2
      go_ret
      exact ⟨by simp, rfl⟩
    | false =>
      have e2 := ord_self h2
      have hne : (a == b) = false := by
        cases h : (a == b) with
        | false => rfl
        | true =>
          have : a = b := by simpa using h
          subst this
          rw [h1] at h2
          cases h2
      rw [hne]
      go_enter Try.func23, Try.ntmps23
      go_wp2
      go_ret
      exact ⟨rfl, rfl⟩
  | false =>
    have e1 := ord_self h1
    cases h2 : nanB b with
    | true =>
      have e2 := ord_nan h2 b
      have hne : (a == b) = false := by
        cases h : (a == b) with
        | false => rfl
        | true =>
          have : a = b := by simpa using h
          subst this
          rw [h1] at h2
          cases h2
      rw [hne]
      go_enter Try.func23, Try.ntmps23
      go_wp2
      go_ret
      exact ⟨rfl, rfl⟩
    | false =>
      have e2 := ord_self h2
      rw [h1] at C1
      rw [h2] at C2
      have HI := hid (same_iff (ha h1) (hb h2) h1 h2)
      rw [← HI.out]
      cases h3 : (FloatKind.f64.format.order a b == some .eq) with
      | false =>
        go_enter Try.func23, Try.ntmps23
        go_wp2
        go_ret
        exact ⟨rfl, rfl⟩
      | true =>
        go_enter Try.func23, Try.ntmps23
        go_wp2_with (first | (go_at_call_of 51 (Value.float FloatKind.f64 a); refine (C1 _).mono ?_; rintro e wq ⟨rfl, eq⟩; rw [eq]; clear eq wq) | (go_at_call_of 51 (Value.float FloatKind.f64 b); refine (C2 _).mono ?_; rintro e wq ⟨rfl, eq⟩; rw [eq]; clear eq wq))
        go_ret
        exact ⟨by simp, rfl⟩

end Go.Proofs.Ythpnlhbfginkjaa
