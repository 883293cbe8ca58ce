/- Same, Sure, Fresh, Decay: the specification's and the program's. -/
import Derived.Test.YtpecdbgbiecdgaaFloatOne
namespace Go.Proofs.Ytpecdbgbiecdgaa
open Go.RowKit
open Go.Lib (hid)

attribute [local go_sem] run_fadd run_fsub run_fmul run_fquo run_fbits run_ffrom

/-- What Sure answers. -/
def sureO (good all : Int) : Option Nat := if 0 ≤ good ∧ good ≤ all ∧ all ≤ 1000000000 then fop .quo (some (floatOfInt .f64 (good + 1))) (some (floatOfInt .f64 (all + 2))) else none

theorem sure_spec (good all : Int) (w : World) : Calls Try.prog 47 #[.int .i64 good, .int .i64 all] w (FPost (sureO good all) w) := by
  unfold FPost
  by_cases h : 0 ≤ all ∧ all ≤ 1000000000
  · by_cases g : 0 ≤ good ∧ good ≤ all
    · have HO : Hid (sureO good all = fop .quo (some (floatOfInt .f64 (good + 1))) (some (floatOfInt .f64 (all + 2)))) := hid (by unfold sureO; rw [if_pos ⟨g.1, g.2, h.2⟩])
      obtain ⟨h1, h2⟩ := h
      obtain ⟨g1, g2⟩ := g
      have g3 : good ≤ 1000000000 := by omega
      go_enter Try.func47, Try.ntmps47
      go_wp2_with (first | (go_at_call 75; refine (in_anyF _ _ _ _).mono ?_; rintro e wq ⟨rfl, eq⟩; rw [eq]; clear eq wq) | (go_at_call 75; refine (in_anyF _ _ _ _).mono ?_; rintro e wq ⟨rfl, eq⟩; rw [eq]; clear eq wq))
      go_ret
      exact ⟨_, rfl, by rw [HO.out]; exact FS.op .quo (FS.some _) (FS.some _) _, fw_below _ _ _ _ _⟩
    · have HO : Hid (sureO good all = none) := hid (by unfold sureO; rw [if_neg (fun k => g ⟨k.1, k.2.1⟩)])
      obtain ⟨h1, h2⟩ := h
      go_enter Try.func47, Try.ntmps47
      go_wp2_with (first | (go_at_call 68; refine (none_spec _).mono ?_; rintro e w2 ⟨r, rfl, hr, hb⟩) | (go_at_call 75; refine (in_anyF _ _ _ _).mono ?_; rintro e wq ⟨rfl, eq⟩; rw [eq]; clear eq wq) | (go_at_call 75; refine (in_anyF _ _ _ _).mono ?_; rintro e wq ⟨rfl, eq⟩; rw [eq]; clear eq wq))
      go_ret
      exact ⟨_, rfl, by rw [HO.out]; exact hr, hb⟩
  · have HO : Hid (sureO good all = none) := hid (by unfold sureO; rw [if_neg (fun k => h ⟨by omega, k.2.2⟩)])
    go_enter Try.func47, Try.ntmps47
    go_wp2_with (first | (go_at_call 68; refine (none_spec _).mono ?_; rintro e w2 ⟨r, rfl, hr, hb⟩) | (go_at_call 75; refine (in_anyF _ _ _ _).mono ?_; rintro e wq ⟨rfl, eq⟩; rw [eq]; clear eq wq))
    go_ret
    exact ⟨_, rfl, by rw [HO.out]; exact hr, hb⟩

theorem sure_impl (good all : Int) (w : World) : Calls Try.prog 46 #[.int .i64 good, .int .i64 all] w (FPost (sureO good all) w) := by
  unfold FPost
  by_cases h : 0 ≤ good ∧ good ≤ all ∧ all ≤ 1000000000
  · have HO : Hid (sureO good all = fop .quo (some (floatOfInt .f64 (good + 1))) (some (floatOfInt .f64 (all + 2)))) := hid (by unfold sureO; rw [if_pos h])
    obtain ⟨h1, h2, h3⟩ := h
    have g3 : good ≤ 1000000000 := by omega
    have g4 : 0 ≤ all := by omega
    go_enter Try.func46, Try.ntmps46
    go_wp2
    go_ret
    exact ⟨_, rfl, by rw [HO.out]; exact FS.op .quo (FS.some _) (FS.some _) _, fw_below _ _ _ _ _⟩
  · have HO : Hid (sureO good all = none) := hid (by unfold sureO; rw [if_neg h])
    by_cases h1 : 0 ≤ good
    · by_cases h2 : good ≤ all
      · have h3 : ¬ all ≤ 1000000000 := fun k => h ⟨h1, h2, k⟩
        clear h
        go_enter Try.func46, Try.ntmps46
        go_wp2_with (go_at_call 69; refine (none_impl _).mono ?_; rintro e wq ⟨rfl, eq⟩; rw [eq]; clear eq wq)
        go_ret
        exact ⟨_, rfl, by rw [HO.out]; exact (by decide : nanB 9221120237041090561 = true), Below.refl _ _⟩
      · clear h
        go_enter Try.func46, Try.ntmps46
        go_wp2_with (go_at_call 69; refine (none_impl _).mono ?_; rintro e wq ⟨rfl, eq⟩; rw [eq]; clear eq wq)
        go_ret
        exact ⟨_, rfl, by rw [HO.out]; exact (by decide : nanB 9221120237041090561 = true), Below.refl _ _⟩
    · clear h
      go_enter Try.func46, Try.ntmps46
      go_wp2_with (go_at_call 69; refine (none_impl _).mono ?_; rintro e wq ⟨rfl, eq⟩; rw [eq]; clear eq wq)
      go_ret
      exact ⟨_, rfl, by rw [HO.out]; exact (by decide : nanB 9221120237041090561 = true), Below.refl _ _⟩

/-- What Fresh answers. -/
def freshB (born now most : Nat) : Bool :=
  let d := fop .sub (some now) (some born)
  (ford d (some 0) == some .gt || ford d (some 0) == some .eq) && (ford d (some most) == some .lt || ford d (some most) == some .eq)

theorem fresh_spec (born now most : Nat) (w : World) : Calls Try.prog 106 #[.float .f64 born, .float .f64 now, .float .f64 most] w fun e w' => e = .returned (.bool (freshB born now most)) ∧ Below w.heap.size w w' := by
  have HF : Hid (freshB born now most = ((ford (fop .sub (some now) (some born)) (some 0) == some .gt || ford (fop .sub (some now) (some born)) (some 0) == some .eq) && (ford (fop .sub (some now) (some born)) (some most) == some .lt || ford (fop .sub (some now) (some born)) (some most) == some .eq))) := hid rfl
  have e1 : ∀ W, FloatKind.f64.format.order (fb .sub now born W) 0 = ford (fop .sub (some now) (some born)) (some 0) := fun W => FS.ord (FS.op .sub (FS.some _) (FS.some _) W) (FS.some _)
  have e2 : ∀ W, FloatKind.f64.format.order (fb .sub now born W) most = ford (fop .sub (some now) (some born)) (some most) := fun W => FS.ord (FS.op .sub (FS.some _) (FS.some _) W) (FS.some _)
  generalize ford (fop .sub (some now) (some born)) (some 0) = c1 at *
  generalize ford (fop .sub (some now) (some born)) (some most) = c2 at *
  rw [HF.out]
  cases h : (c1 == some .gt || c1 == some .eq) with
  | true =>
    go_enter Try.func106, Try.ntmps106
    go_wp2
    go_ret
    exact ⟨rfl, fw_below _ _ _ _ _⟩
  | false =>
    go_enter Try.func106, Try.ntmps106
    go_wp2
    go_ret
    exact ⟨rfl, fw_below _ _ _ _ _⟩

theorem fresh_impl (born now most : Nat) (w : World) : Calls Try.prog 59 #[.float .f64 born, .float .f64 now, .float .f64 most] w fun e w' => e = .returned (.bool (freshB born now most)) ∧ Below w.heap.size w w' := by
  have HF : Hid (freshB born now most = ((ford (fop .sub (some now) (some born)) (some 0) == some .gt || ford (fop .sub (some now) (some born)) (some 0) == some .eq) && (ford (fop .sub (some now) (some born)) (some most) == some .lt || ford (fop .sub (some now) (some born)) (some most) == some .eq))) := hid rfl
  have e1 : ∀ W, FloatKind.f64.format.order (fb .sub now born W) 0 = ford (fop .sub (some now) (some born)) (some 0) := fun W => FS.ord (FS.op .sub (FS.some _) (FS.some _) W) (FS.some _)
  have e2 : ∀ W, FloatKind.f64.format.order (fb .sub now born W) most = ford (fop .sub (some now) (some born)) (some most) := fun W => FS.ord (FS.op .sub (FS.some _) (FS.some _) W) (FS.some _)
  generalize ford (fop .sub (some now) (some born)) (some 0) = c1 at *
  generalize ford (fop .sub (some now) (some born)) (some most) = c2 at *
  rw [HF.out]
  cases h : (c1 == some .gt || c1 == some .eq) with
  | true =>
    go_enter Try.func59, Try.ntmps59
    go_wp2
    go_ret
    exact ⟨rfl, fw_below _ _ _ _ _⟩
  | false =>
    go_enter Try.func59, Try.ntmps59
    go_wp2
    go_ret
    exact ⟨rfl, fw_below _ _ _ _ _⟩

/-- A number halved so often. -/
def halvO (x : Nat) : Nat → Option Nat
  | 0 => some x
  | k + 1 => fop .mul (halvO x k) (some 4602678819172646912)

/-- What Decay answers. -/
def decO (x : Nat) (n : Int) : Option Nat := if 0 ≤ n ∧ n ≤ 3000 then halvO x n.toNat else none

theorem decay_spec (x : Nat) (n : Int) (w : World) : Calls Try.prog 44 #[.float .f64 x, .int .i64 n] w (FPost (decO x n) w) := by
  unfold FPost
  have C1 := hid (fun W => in_anyF n 0 3000 W)
  by_cases h : 0 ≤ n ∧ n ≤ 3000
  · rw [decide_eq_true h] at C1
    have HO : Hid (decO x n = halvO x n.toNat) := hid (by unfold decO; rw [if_pos h])
    obtain ⟨h1, h2⟩ := h
    obtain ⟨m, rfl⟩ := Int.eq_ofNat_of_zero_le h1
    go_enter Try.func44, Try.ntmps44
    go_wp2_with (go_at_call 75; refine (C1.out _).mono ?_; rintro e wq ⟨rfl, eq⟩; rw [eq]; clear eq wq)
    go_loopw [0, 5] (fun xv iv wr => ∃ k r : Nat, k ≤ m ∧ iv = .int .i64 k ∧ xv = .float .f64 r ∧ Hid (FS (halvO x k) r) ∧ Hid (Below w.heap.size w wr)) (fun _ iv _ => m - (RowKit.intOf iv).toNat)
    case atStart => exact ⟨0, x, Nat.zero_le _, rfl, rfl, hid (FS.some _), hid (Below.refl _ _)⟩
    case round =>
      obtain ⟨k, r, hk, rfl, rfl, HR, HB⟩ := hrel
      by_cases hlt : k < m
      · go_wp2
        go_roundw
        case rel => exact ⟨k + 1, _, by omega, by go_num, rfl, hid (FS.op .mul HR.out (FS.some _) _), hid (below_fw HB.out _ _ _)⟩
        case measure => simp [RowKit.intOf]; omega
      · have hkm : k = m := by omega
        subst hkm
        go_wp2
        go_ret
        exact ⟨_, rfl, by rw [HO.out, Int.toNat_natCast]; exact HR.out, HB.out⟩
  · rw [decide_eq_false h] at C1
    have HO : Hid (decO x n = none) := hid (by unfold decO; rw [if_neg h])
    clear h
    go_enter Try.func44, Try.ntmps44
    go_wp2_with (first | (go_at_call 68; refine (none_spec _).mono ?_; rintro e w2 ⟨r, rfl, hr, hb⟩) | (go_at_call 75; refine (C1.out _).mono ?_; rintro e wq ⟨rfl, eq⟩; rw [eq]; clear eq wq))
    go_ret
    exact ⟨_, rfl, by rw [HO.out]; exact hr, hb⟩

theorem decay_impl (x : Nat) (n : Int) (w : World) : Calls Try.prog 43 #[.float .f64 x, .int .i64 n] w (FPost (decO x n) w) := by
  unfold FPost
  by_cases h1 : 0 ≤ n
  · by_cases h2 : n ≤ 3000
    · have HO : Hid (decO x n = halvO x n.toNat) := hid (by unfold decO; rw [if_pos ⟨h1, h2⟩])
      obtain ⟨m, rfl⟩ := Int.eq_ofNat_of_zero_le h1
      go_enter Try.func43, Try.ntmps43
      go_wp2
      go_loopw [0, 13] (fun xv iv wr => ∃ k r : Nat, k ≤ m ∧ iv = .int .i64 k ∧ xv = .float .f64 r ∧ Hid (FS (halvO x k) r) ∧ Hid (Below w.heap.size w wr)) (fun _ iv _ => m - (RowKit.intOf iv).toNat)
      case atStart => exact ⟨0, x, Nat.zero_le _, rfl, rfl, hid (FS.some _), hid (Below.refl _ _)⟩
      case round =>
        obtain ⟨k, r, hk, rfl, rfl, HR, HB⟩ := hrel
        by_cases hlt : k < m
        · go_wp2_with (go_at_call 74; refine (times_calls HR.out (FS.some _) _).mono ?_; rintro e w2 ⟨r2, rfl, hr2, hb2⟩)
          have HR2 := hid hr2
          have HB2 := hid hb2
          clear hr2 hb2
          go_wp2
          go_roundw
          case rel => exact ⟨k + 1, _, by omega, by go_num, rfl, HR2, hid (HB.out.trans (HB2.out.mono HB.out.size))⟩
          case measure => simp [RowKit.intOf]; omega
        · have hkm : k = m := by omega
          subst hkm
          go_wp2
          go_ret
          exact ⟨_, rfl, by rw [HO.out, Int.toNat_natCast]; exact HR.out, HB.out⟩
    · have HO : Hid (decO x n = none) := hid (by unfold decO; rw [if_neg (fun k => h2 k.2)])
      go_enter Try.func43, Try.ntmps43
      go_wp2_with (go_at_call 69; refine (none_impl _).mono ?_; rintro e wq ⟨rfl, eq⟩; rw [eq]; clear eq wq)
      go_ret
      exact ⟨_, rfl, by rw [HO.out]; exact (by decide : nanB 9221120237041090561 = true), Below.refl _ _⟩
  · have HO : Hid (decO x n = none) := hid (by unfold decO; rw [if_neg (fun k => h1 k.1)])
    go_enter Try.func43, Try.ntmps43
    go_wp2_with (go_at_call 69; refine (none_impl _).mono ?_; rintro e wq ⟨rfl, eq⟩; rw [eq]; clear eq wq)
    go_ret
    exact ⟨_, rfl, by rw [HO.out]; exact (by decide : nanB 9221120237041090561 = true), Below.refl _ _⟩

/-- What Same answers. -/
def sameB (a b : Nat) : Bool := a == b || nanB a && nanB b

/-- A sign that is set, of a nought too. -/
def minusB (x : Nat) : Bool := !nanB x && sgn x

theorem lt_zero {x : Nat} (h : nanB x = false) (hz : rg x ≠ 0) : (FloatKind.f64.format.order x 0 == some .lt) = sgn x := by
  rw [f64_format, order_key h (by decide)]
  have h0 : fkey 0 = 0 := by decide
  rw [h0]
  unfold fkey
  cases sgn x
  · rw [if_neg (by decide), cmp_gt (by omega)]; rfl
  · rw [if_pos rfl, cmp_lt (by omega)]; rfl

theorem minus_spec (x : Nat) (w : World) : Calls Try.prog 85 #[.float .f64 x] w fun e w' => e = .returned (.bool (minusB x)) ∧ w' = w := by
  unfold minusB
  cases hn : nanB x with
  | true =>
    have h1 := ord_nan hn 0
    go_enter Try.func85, Try.ntmps85
    go_wp2
    go_ret
    exact ⟨rfl, rfl⟩
  | false =>
    by_cases hz : rg x = 0
    · have h1 := (zero_iff hn).2 hz
      have h3 := one_by hz
      have h4 := fb_some h3
      have h5 := fw_some h3
      have h6 := quo_gt x
      generalize (if sgn x then 18442240474082181120 else 9218868437227405312) = q at *
      clear h3 hz
      cases hs : sgn x with
      | true =>
        rw [hs, if_pos rfl] at h6
        go_enter Try.func85, Try.ntmps85
        go_wp2
        go_ret
        exact ⟨rfl, rfl⟩
      | false =>
        rw [hs, if_neg (by decide)] at h6
        go_enter Try.func85, Try.ntmps85
        go_wp2
        go_ret
        exact ⟨rfl, rfl⟩
    · have h1 := lt_zero hn hz
      have h2 : (FloatKind.f64.format.order x 0 == some .eq) = false := by
        have := (zero_iff hn).1
        cases h : (FloatKind.f64.format.order x 0 == some .eq) with
        | false => rfl
        | true => exact absurd (this (by simpa using h)) hz
      clear hz
      cases hs : sgn x with
      | true =>
        rw [hs] at h1
        go_enter Try.func85, Try.ntmps85
        go_wp2
        go_ret
        exact ⟨rfl, rfl⟩
      | false =>
        rw [hs] at h1
        go_enter Try.func85, Try.ntmps85
        go_wp2
        go_ret
        exact ⟨rfl, rfl⟩

theorem word_of (x : Nat) (hx : x < 18446744073709551616) : x = (if sgn x then 9223372036854775808 else 0) + rg x := by
  have h1 := Nat.div_add_mod x 9223372036854775808
  have h2 : x / 9223372036854775808 < 2 := (Nat.div_lt_iff_lt_mul (by decide)).2 hx
  unfold sgn rg
  rcases (by omega : x / 9223372036854775808 = 0 ∨ x / 9223372036854775808 = 1) with h | h
  · rw [h] at h1 ⊢
    rw [if_neg (by decide)]
    omega
  · rw [h] at h1 ⊢
    rw [if_pos (by decide)]
    omega

/-- Alike in order and sign: the same bits. -/
theorem same_iff {a b : Nat} (ha : a < 18446744073709551616) (hb : b < 18446744073709551616) (h1 : nanB a = false) (h2 : nanB b = false) : (FloatKind.f64.format.order a b == some .eq && (sgn a == sgn b)) = (a == b) := by
  rw [f64_format, order_key h1 h2]
  have ea := word_of a ha
  have eb := word_of b hb
  cases hab : (a == b) with
  | true =>
    have : a = b := by simpa using hab
    subst this
    rw [cmp_eq rfl]
    simp
  | false =>
    have hne : a ≠ b := by simpa using hab
    cases hs : (sgn a == sgn b) with
    | false => simp
    | true =>
      have hse : sgn a = sgn b := by simpa using hs
      have hr : rg a ≠ rg b := fun h => hne (by rw [ea, eb, hse, h])
      have hk : fkey a ≠ fkey b := by
        unfold fkey
        rw [hse]
        cases sgn b <;> simp <;> omega
      rcases Int.lt_trichotomy (fkey a) (fkey b) with g | g | g
      · rw [cmp_lt g]; rfl
      · exact absurd g hk
      · rw [cmp_gt g]; rfl

set_option maxHeartbeats 1000000 in
theorem same_spec (a b : Nat) (ha : nanB a = false → a < 18446744073709551616) (hb : nanB b = false → b < 18446744073709551616) (w : World) : Calls Try.prog 33 #[.float .f64 a, .float .f64 b] w fun e w' => e = .returned (.bool (sameB a b)) ∧ w' = w := by
  have C1 := fun W => minus_spec a W
  have C2 := fun W => minus_spec b W
  unfold sameB
  unfold minusB at C1 C2
  cases h1 : nanB a with
  | true =>
    have e1 := ord_nan h1 a
    cases h2 : nanB b with
    | true =>
      have e2 := ord_nan h2 b
      go_enter Try.func33, Try.ntmps33
      go_wp2
      go_ret
      exact ⟨by simp, rfl⟩
    | false =>
      have e2 := ord_self h2
      have hne : (a == b) = false := by
        cases h : (a == b) with
        | false => rfl
        | true =>
          have : a = b := by simpa using h
          subst this
          rw [h1] at h2
          cases h2
      rw [hne]
      go_enter Try.func33, Try.ntmps33
      go_wp2
      go_ret
      exact ⟨rfl, rfl⟩
  | false =>
    have e1 := ord_self h1
    cases h2 : nanB b with
    | true =>
      have e2 := ord_nan h2 b
      have hne : (a == b) = false := by
        cases h : (a == b) with
        | false => rfl
        | true =>
          have : a = b := by simpa using h
          subst this
          rw [h1] at h2
          cases h2
      rw [hne]
      go_enter Try.func33, Try.ntmps33
      go_wp2
      go_ret
      exact ⟨rfl, rfl⟩
    | false =>
      have e2 := ord_self h2
      rw [h1] at C1
      rw [h2] at C2
      have HI := hid (same_iff (ha h1) (hb h2) h1 h2)
      rw [← HI.out]
      cases h3 : (FloatKind.f64.format.order a b == some .eq) with
      | false =>
        go_enter Try.func33, Try.ntmps33
        go_wp2
        go_ret
        exact ⟨rfl, rfl⟩
      | true =>
        go_enter Try.func33, Try.ntmps33
        go_wp2_with (first | (go_at_call_of 85 (Value.float FloatKind.f64 a); refine (C1 _).mono ?_; rintro e wq ⟨rfl, eq⟩; rw [eq]; clear eq wq) | (go_at_call_of 85 (Value.float FloatKind.f64 b); refine (C2 _).mono ?_; rintro e wq ⟨rfl, eq⟩; rw [eq]; clear eq wq))
        go_ret
        exact ⟨by simp, rfl⟩

theorem same_impl (a b : Nat) (w : World) : Calls Try.prog 35 #[.float .f64 a, .float .f64 b] w fun e w' => e = .returned (.bool (sameB a b)) ∧ w' = w := by
  unfold sameB
  cases h : (a == b) with
  | true =>
    have e : a = b := by simpa using h
    subst e
    go_enter Try.func35, Try.ntmps35
    go_wp2
    go_ret
    exact ⟨by simp, rfl⟩
  | false =>
    have e : ((a : Int) == (b : Int)) = false := by
      have : a ≠ b := by simpa using h
      simp
      omega
    cases h1 : nanB a with
    | true =>
      go_enter Try.func35, Try.ntmps35
      go_wp2_with (go_at_call 82; refine (nan_calls _ _).mono ?_; rintro e wq ⟨rfl, eq⟩; rw [eq]; clear eq wq)
      go_ret
      exact ⟨by simp, rfl⟩
    | false =>
      go_enter Try.func35, Try.ntmps35
      go_wp2_with (go_at_call 82; refine (nan_calls _ _).mono ?_; rintro e wq ⟨rfl, eq⟩; rw [eq]; clear eq wq)
      go_ret
      exact ⟨by simp, rfl⟩
end Go.Proofs.Ytpecdbgbiecdgaa
