/- Above: the specification's and the program's; the law. -/
import Derived.Test.YtpecdbgbiecdgaaAboveBoth
namespace Go.Proofs.Ytpecdbgbiecdgaa
open Go.RowKit
open Go.Lib (hid)

attribute [local go_sem] run_fadd run_fsub run_fmul run_fquo run_fnegA run_fbits run_ffrom

/-- What Above answers. -/
def aboveO (x : Nat) : Option Nat :=
  if nanB x = true then none
  else if x = 9218868437227405312 then some x
  else if rg x = 0 then some 1
  else if sgn x = true then some (x - 1) else some (x + 1)

theorem ord0 {x : Nat} (h : nanB x = false) : FloatKind.f64.format.order x 0 = some (compare (fkey x) 0) := by
  rw [f64_format, order_key h (by decide), show fkey 0 = 0 by decide]

theorem tests_pos {x : Nat} (h : nanB x = false) (h0 : 0 < fkey x) : (FloatKind.f64.format.order x 0 == some .gt) = true ∧ (FloatKind.f64.format.order x 0 == some .eq) = false ∧ (FloatKind.f64.format.order x 0 == some .lt) = false := by
  rw [ord0 h, cmp_gt h0]; exact ⟨rfl, rfl, rfl⟩
theorem tests_neg {x : Nat} (h : nanB x = false) (h0 : fkey x < 0) : (FloatKind.f64.format.order x 0 == some .gt) = false ∧ (FloatKind.f64.format.order x 0 == some .eq) = false ∧ (FloatKind.f64.format.order x 0 == some .lt) = true := by
  rw [ord0 h, cmp_lt h0]; exact ⟨rfl, rfl, rfl⟩
theorem tests_zero {x : Nat} (h : nanB x = false) (h0 : fkey x = 0) : (FloatKind.f64.format.order x 0 == some .gt) = false ∧ (FloatKind.f64.format.order x 0 == some .eq) = true ∧ (FloatKind.f64.format.order x 0 == some .lt) = false := by
  rw [ord0 h, cmp_eq h0]; exact ⟨rfl, rfl, rfl⟩

theorem ne_self {x : Nat} (h : nanB x = false) : (FloatKind.f64.format.order x x != some .eq) = false := by
  rw [ord_self h]; rfl
theorem ne_nan {x : Nat} (h : nanB x = true) : (FloatKind.f64.format.order x x != some .eq) = true := by
  rw [ord_nan h x]; rfl

theorem parts_great {r : Nat} (h : r < 9223372036854775808) : sgn (9223372036854775808 + r) = true ∧ rg (9223372036854775808 + r) = r := by
  constructor
  · unfold sgn
    rw [Nat.add_div_left _ (by decide), Nat.div_eq_of_lt h]
    rfl
  · unfold rg
    rw [Nat.add_mod_left, Nat.mod_eq_of_lt h]

/-- What there is: a NaN, the infinity, a nought, the other infinity, a number above nought, a number below. -/
theorem above_cases (x : Nat) (hx : x < 18446744073709551616) : nanB x = true ∨ (nanB x = false ∧ (x = 9218868437227405312 ∨ rg x = 0 ∨ (∃ r, 0 < r ∧ r ≤ 9218868437227405312 ∧ x = 9223372036854775808 + r) ∨ (0 < x ∧ x < 9218868437227405312))) := by
  cases hn : nanB x with
  | true => exact .inl rfl
  | false =>
    right
    refine ⟨rfl, ?_⟩
    have hw := word_ofA x hx
    unfold nanB at hn
    have hn := of_decide_eq_false hn
    by_cases h0 : rg x = 0
    · exact .inr (.inl h0)
    · cases hs : sgn x with
      | true =>
        rw [hs, if_pos rfl] at hw
        exact .inr (.inr (.inl ⟨rg x, by omega, by omega, hw⟩))
      | false =>
        rw [hs, if_neg (by decide)] at hw
        by_cases hi : x = 9218868437227405312
        · exact .inl hi
        · exact .inr (.inr (.inr ⟨by omega, by omega⟩))

theorem digits_of {r : Nat} (h0 : 0 < r) (h1 : r < 9218868437227405312) : ∃ (m : Nat) (q : Int), 0 < m ∧ Digits m q ∧ rung m q = r ∧ r = (q + 1074).toNat * 4503599627370496 + m := by
  obtain ⟨m, q, k0, k1, k2, k3, k4, k5⟩ := norm_of h0 h1
  have e : rung m q = r := by rw [norm_rung k1 k2 k4, ← k5, Nat.min_eq_left (Nat.le_of_lt h1)]
  exact ⟨m, q, k0, ⟨k1, k2, k3, k4, by rw [e]; exact h1⟩, e, k5⟩

theorem rung_up {m r : Nat} {q : Int} (hd : Digits m q) (h1 : r < 9218868437227405312) (h : r = (q + 1074).toNat * 4503599627370496 + m) : rung (m + 1) q = r + 1 := by
  have hm := hd.m1
  have hq := hd.q0
  have hs := hd.st
  by_cases h2 : m + 1 < 9007199254740992
  · rw [norm_rung h2 hq (by omega), ← Nat.add_assoc, ← h, Nat.min_eq_left h1]
  · have e := rung_double 4503599627370496 q
    have e2 : m + 1 = 4503599627370496 * 2 := by omega
    rw [e2, e, norm_rung (by decide) (by omega) (.inl (Nat.le_refl _))]
    have e3 : (q + 1 + 1074).toNat * 4503599627370496 + 4503599627370496 = r + 1 := by
      rw [show (q + 1 + 1074).toNat = (q + 1074).toNat + 1 by omega, Nat.add_mul]
      omega
    rw [e3, Nat.min_eq_left h1]

theorem rung_dn1 {r : Nat} {q : Int} (hq : -1074 < q) (h1 : r ≤ 9218868437227405312) (h : r = (q + 1074).toNat * 4503599627370496 + 4503599627370496) : rung 9007199254740991 (q - 1) = r - 1 := by
  rw [norm_rung (by decide) (by omega) (.inl (by decide))]
  have e3 : (q - 1 + 1074).toNat * 4503599627370496 + 9007199254740991 = r - 1 := by
    rw [h, show (q + 1074).toNat = (q - 1 + 1074).toNat + 1 by omega, Nat.add_mul]
    omega
  rw [e3]
  exact Nat.min_eq_left (by omega)

theorem rung_dn2 {m r : Nat} {q : Int} (hd : Digits m q) (hm0 : 0 < m) (h1 : r < 9218868437227405312) (h : r = (q + 1074).toNat * 4503599627370496 + m) (hc : m = 4503599627370496 → q = -1074) : rung (m - 1) q = r - 1 := by
  have hs := hd.st
  have hm := hd.m1
  rw [norm_rung (by omega) hd.q0 (by omega)]
  rw [show (q + 1074).toNat * 4503599627370496 + (m - 1) = r - 1 by omega]
  exact Nat.min_eq_left (by omega)

/-- A number that is known leaves the world as it is. -/
theorem known_fin {x : Nat} (hf : finB x = true) (w : World) : Calls Try.prog 37 #[.float .f64 x] w fun e w' => e = .returned (.bool true) ∧ w' = w := by
  have h := sub_self (x := x)
  rw [hf, if_pos rfl] at h
  have h1 := fb_some h
  have h2 := fw_some h
  have h3 : FloatKind.f64.format.order 0 0 = some .eq := by decide
  clear h
  go_enter Try.func37, Try.ntmps37
  go_wp2
  go_ret
  exact ⟨rfl, rfl⟩

theorem known_inf {x : Nat} (hf : finB x = false) (w : World) : Calls Try.prog 37 #[.float .f64 x] w fun e w' => e = .returned (.bool false) ∧ Below w.heap.size w w' := by
  have := known_spec x w
  rw [hf] at this
  exact this

set_option maxHeartbeats 1000000 in
theorem above_pos (x m : Nat) (q : Int) (x0 : 0 < x) (x1 : x < 9218868437227405312) (hd : Digits m q) (e2 : rung m q = x) (e3 : x = (q + 1074).toNat * 4503599627370496 + m) (hn : nanB x = false) (w : World) :
    Calls Try.prog 34 #[.float .f64 x] w fun e w' => e = .returned (.float .f64 (x + 1)) ∧ w' = w := by
  have hb : x < 9223372036854775808 := by omega
  have e1 := ne_self hn
  have g1 := sgn_small hb
  have g2 := rg_small hb
  have hk : 0 < fkey x := by unfold fkey; rw [g1, g2, if_neg (by decide)]; omega
  obtain ⟨t1, t2, t3⟩ := tests_pos hn hk
  have hf : finB x = true := by unfold finB; rw [g2]; exact decide_eq_true x1
  have hm : minusB x = false := by unfold minusB; rw [hn, g1]; rfl
  have CZ := fun W => sizeA_spec x W
  rw [hm, if_neg (by decide)] at CZ
  have CK := fun W => known_fin hf W
  have CP := fun W => parts_spec m q hd W
  rw [e2] at CP
  have hq0 := hd.q0
  have hq1 := hd.q1
  have hm1 := hd.m1
  have CS := fun W => scaled_spec (m + 1) (by omega) q (by omega) (by omega) W
  rw [rung_up hd x1 e3, show ((m + 1 : Nat) : Int) = (m : Int) + 1 by omega] at CS
  clear hd e3 e2 hm hf hk hn g1 g2
  go_enter Try.func34, Try.ntmps34
  go_wp2_with (first | (go_at_call 37; refine (CK _).mono ?_; rintro e w2 ⟨rfl, eq⟩; rw [eq]; clear eq w2) | (go_at_call 88; refine (CZ _).mono ?_; rintro e w2 ⟨rfl, eq⟩; rw [eq]; clear eq w2) | (go_at_call 87; refine (CP _).mono ?_; rintro e w2 ⟨rfl, eq⟩; rw [eq]; clear eq w2) | (go_at_call 86; refine (CS _).mono ?_; rintro e w2 ⟨rfl, eq⟩; rw [eq]; clear eq w2))
  go_ret
  exact ⟨rfl, rfl⟩

set_option maxHeartbeats 1000000 in
theorem above_neg (r m : Nat) (q : Int) (r0 : 0 < r) (r1 : r < 9218868437227405312) (m0 : 0 < m) (hd : Digits m q) (e2 : rung m q = r) (e3 : r = (q + 1074).toNat * 4503599627370496 + m) (hn : nanB (9223372036854775808 + r) = false) (w : World) :
    Calls Try.prog 34 #[.float .f64 (9223372036854775808 + r)] w fun e w' => e = .returned (.float .f64 (9223372036854775808 + (r - 1))) ∧ w' = w := by
  obtain ⟨g1, g2⟩ := parts_great (r := r) (by omega)
  have e1 := ne_self hn
  have hk : fkey (9223372036854775808 + r) < 0 := by unfold fkey; rw [g1, g2, if_pos rfl]; omega
  obtain ⟨t1, t2, t3⟩ := tests_neg hn hk
  have hf : finB (9223372036854775808 + r) = true := by unfold finB; rw [g2]; exact decide_eq_true r1
  have hm : minusB (9223372036854775808 + r) = true := by unfold minusB; rw [hn, g1]; rfl
  have CZ := fun W => sizeA_spec (9223372036854775808 + r) W
  rw [hm, if_pos rfl, neg_great (by omega)] at CZ
  have CK := fun W => known_fin hf W
  have CP := fun W => parts_spec m q hd W
  rw [e2] at CP
  have hq0 := hd.q0
  have hq1 := hd.q1
  have hm1 := hd.m1
  have HD := hid hd
  have H3 := hid e3
  have eN := neg_small (r := r - 1) (by omega)
  clear hd e3 e2 hm hf hk hn g1 g2
  generalize hX : 9223372036854775808 + r = X at *
  by_cases hc : m = 4503599627370496
  · by_cases hq : -1074 < q
    · have CS := fun W => scaled_spec 9007199254740991 (by decide) (q - 1) (by omega) (by omega) W
      rw [rung_dn1 hq (Nat.le_of_lt r1) (by rw [H3.out, hc]), show ((9007199254740991 : Nat) : Int) = 9007199254740991 by omega] at CS
      have b1 : ((m : Int) == 4503599627370496) = true := by rw [hc]; rfl
      clear hc hX
      go_enter Try.func34, Try.ntmps34
      go_wp2_with (first | (go_at_call 37; refine (CK _).mono ?_; rintro e w2 ⟨rfl, eq⟩; rw [eq]; clear eq w2) | (go_at_call 88; refine (CZ _).mono ?_; rintro e w2 ⟨rfl, eq⟩; rw [eq]; clear eq w2) | (go_at_call 87; refine (CP _).mono ?_; rintro e w2 ⟨rfl, eq⟩; rw [eq]; clear eq w2) | (go_at_call 86; refine (CS _).mono ?_; rintro e w2 ⟨rfl, eq⟩; rw [eq]; clear eq w2))
      go_ret
      exact ⟨by first | rfl | rw [eN], rfl⟩
    · obtain rfl : q = -1074 := by omega
      have CS := fun W => scaled_spec (m - 1) (by omega) (-1074) (by omega) (by omega) W
      rw [rung_dn2 HD.out m0 r1 H3.out (fun _ => rfl), show ((m - 1 : Nat) : Int) = (m : Int) - 1 by omega] at CS
      have b1 : ((m : Int) == 4503599627370496) = true := by rw [hc]; rfl
      clear hc hX
      go_enter Try.func34, Try.ntmps34
      go_wp2_with (first | (go_at_call 37; refine (CK _).mono ?_; rintro e w2 ⟨rfl, eq⟩; rw [eq]; clear eq w2) | (go_at_call 88; refine (CZ _).mono ?_; rintro e w2 ⟨rfl, eq⟩; rw [eq]; clear eq w2) | (go_at_call 87; refine (CP _).mono ?_; rintro e w2 ⟨rfl, eq⟩; rw [eq]; clear eq w2) | (go_at_call 86; refine (CS _).mono ?_; rintro e w2 ⟨rfl, eq⟩; rw [eq]; clear eq w2))
      go_ret
      exact ⟨by first | rfl | rw [eN], rfl⟩
  · have CS := fun W => scaled_spec (m - 1) (by omega) q (by omega) (by omega) W
    rw [rung_dn2 HD.out m0 r1 H3.out (fun h => absurd h hc), show ((m - 1 : Nat) : Int) = (m : Int) - 1 by omega] at CS
    have b1 : ((m : Int) == 4503599627370496) = false := by rw [beq_eq_false_iff_ne]; omega
    clear hc hX
    go_enter Try.func34, Try.ntmps34
    go_wp2_with (first | (go_at_call 37; refine (CK _).mono ?_; rintro e w2 ⟨rfl, eq⟩; rw [eq]; clear eq w2) | (go_at_call 88; refine (CZ _).mono ?_; rintro e w2 ⟨rfl, eq⟩; rw [eq]; clear eq w2) | (go_at_call 87; refine (CP _).mono ?_; rintro e w2 ⟨rfl, eq⟩; rw [eq]; clear eq w2) | (go_at_call 86; refine (CS _).mono ?_; rintro e w2 ⟨rfl, eq⟩; rw [eq]; clear eq w2))
    go_ret
    exact ⟨by first | rfl | rw [eN], rfl⟩

set_option maxHeartbeats 1000000 in
theorem above_spec (x : Nat) (hx : x < 18446744073709551616) (w : World) : Calls Try.prog 34 #[.float .f64 x] w (FPost (aboveO x) w) := by
  rcases above_cases x hx with hn | ⟨hn, h⟩
  · unfold FPost
    have e1 := ne_nan hn
    have HO : Hid (aboveO x = none) := hid (by unfold aboveO; rw [if_pos hn])
    have HN := hid hn
    clear hn
    go_enter Try.func34, Try.ntmps34
    go_wp2
    go_ret
    exact ⟨_, rfl, by rw [HO.out]; exact HN.out, Below.refl _ _⟩
  · rcases h with rfl | h0 | ⟨r, r0, r1, rfl⟩ | ⟨x0, x1⟩
    · unfold FPost
      have e1 := ne_self hn
      obtain ⟨t1, t2, t3⟩ := tests_pos hn (by decide)
      have HO : Hid (aboveO 9218868437227405312 = some 9218868437227405312) := hid (by decide)
      go_enter Try.func34, Try.ntmps34
      go_wp2_with (go_at_call 37; refine (known_inf (by decide) _).mono ?_; rintro e w2 ⟨rfl, hb⟩; have HB := hid hb; clear hb)
      go_ret
      exact ⟨_, rfl, by rw [HO.out]; rfl, HB.out⟩
    · unfold FPost
      have e1 := ne_self hn
      have hk : fkey x = 0 := by unfold fkey; rw [h0]; cases sgn x <;> rfl
      obtain ⟨t1, t2, t3⟩ := tests_zero hn hk
      have HO : Hid (aboveO x = some 1) := hid (by
        unfold aboveO
        rw [hn, if_neg (by decide), if_neg (fun h => by rw [h] at h0; exact absurd h0 (by decide)), if_pos h0])
      have CS := fun W => scaled_spec 1 (by decide) (-1074) (by decide) (by decide) W
      rw [show rung 1 (-1074) = 1 by decide, show ((1 : Nat) : Int) = 1 by omega] at CS
      clear h0 hk hn
      go_enter Try.func34, Try.ntmps34
      go_wp2_with (go_at_call 86; refine (CS _).mono ?_; rintro e w2 ⟨rfl, eq⟩; rw [eq]; clear eq w2)
      go_ret
      exact ⟨_, rfl, by rw [HO.out]; rfl, Below.refl _ _⟩
    · obtain ⟨g1, g2⟩ := parts_great (r := r) (by omega)
      have hO : aboveO (9223372036854775808 + r) = some (9223372036854775808 + (r - 1)) := by
        unfold aboveO
        rw [hn, if_neg (by decide), if_neg (by omega), g2, if_neg (by omega), g1, if_pos rfl]
        congr 1
        omega
      rcases Nat.lt_or_eq_of_le r1 with r1 | r1
      · obtain ⟨m, q, m0, hd, e2, e3⟩ := digits_of r0 r1
        refine (above_neg r m q r0 r1 m0 hd e2 e3 hn w).mono ?_
        rintro e w2 ⟨rfl, rfl⟩
        exact ⟨_, rfl, by rw [hO]; rfl, Below.refl _ _⟩
      · unfold FPost
        subst r1
        have e1 := ne_self hn
        have hk : fkey (9223372036854775808 + 9218868437227405312) < 0 := by decide
        obtain ⟨t1, t2, t3⟩ := tests_neg hn hk
        have HO := hid hO
        have CS := fun W => scaled_spec 9007199254740991 (by decide) 971 (by decide) (by decide) W
        rw [show rung 9007199254740991 971 = 9218868437227405311 by rw [norm_rung (by decide) (by decide) (.inl (by decide))]; decide, show ((9007199254740991 : Nat) : Int) = 9007199254740991 by omega] at CS
        have eN := neg_small (r := 9218868437227405311) (by decide)
        clear hk hn g1 g2 hO
        go_enter Try.func34, Try.ntmps34
        go_wp2_with (first | (go_at_call 37; refine (known_inf (by decide) _).mono ?_; rintro e w2 ⟨rfl, hb⟩; have HB := hid hb; clear hb) | (go_at_call 86; refine (CS _).mono ?_; rintro e wq ⟨rfl, eq⟩; rw [eq]; clear eq wq))
        go_ret
        exact ⟨_, rfl, by rw [HO.out]; first | rfl | exact eN, HB.out⟩
    · obtain ⟨m, q, m0, hd, e2, e3⟩ := digits_of x0 x1
      have hO : aboveO x = some (x + 1) := by
        unfold aboveO
        rw [hn, if_neg (by decide), if_neg (by omega), rg_small (by omega), if_neg (by omega), sgn_small (by omega), if_neg (by decide)]
      refine (above_pos x m q x0 x1 hd e2 e3 hn w).mono ?_
      rintro e w2 ⟨rfl, rfl⟩
      exact ⟨_, rfl, by rw [hO]; rfl, Below.refl _ _⟩

theorem inf1_calls (x : Nat) (w : World) : Calls Try.prog 83 #[.float .f64 x, .int .i64 1] w fun e w' => e = .returned (.bool (FloatKind.f64.format.order x 9218868437227405311 == some .gt)) ∧ w' = w := by
  go_enter Try.func83, Try.ntmps83
  go_wp2
  go_ret
  exact ⟨rfl, rfl⟩

theorem inf1_key {x : Nat} (hn : nanB x = false) : (FloatKind.f64.format.order x 9218868437227405311 == some .gt) = decide (9218868437227405311 < fkey x) := by
  rw [f64_format, order_key hn (by decide), show fkey 9218868437227405311 = 9218868437227405311 by decide]
  rcases Int.lt_trichotomy (fkey x) 9218868437227405311 with g | g | g
  · rw [cmp_lt g, decide_eq_false (by omega)]; rfl
  · rw [cmp_eq g, decide_eq_false (by omega)]; rfl
  · rw [cmp_gt g, decide_eq_true g]; rfl

set_option maxHeartbeats 1000000 in
theorem above_impl (x : Nat) (hx : x < 18446744073709551616) (w : World) : Calls Try.prog 32 #[.float .f64 x] w (FPost (aboveO x) w) := by
  unfold FPost
  have CN := fun W => nan_calls x W
  have CI := fun W => inf1_calls x W
  rcases above_cases x hx with hn | ⟨hn, h⟩
  · rw [hn] at CN
    have HO : Hid (aboveO x = none) := hid (by unfold aboveO; rw [if_pos hn])
    have HN := hid hn
    clear hn
    go_enter Try.func32, Try.ntmps32
    go_wp2_with (first | (go_at_call 82; refine (CN _).mono ?_; rintro e wq ⟨rfl, eq⟩; rw [eq]; clear eq wq) | (go_at_call 83; refine (CI _).mono ?_; rintro e wq ⟨rfl, eq⟩; rw [eq]; clear eq wq))
    go_ret
    exact ⟨_, rfl, by rw [HO.out]; exact HN.out, Below.refl _ _⟩
  · rw [hn] at CN
    have hI := inf1_key hn
    rcases h with rfl | h0 | ⟨r, r0, r1, rfl⟩ | ⟨x0, x1⟩
    · rw [hI, show fkey 9218868437227405312 = 9218868437227405312 by decide, decide_eq_true (by decide)] at CI
      have HO : Hid (aboveO 9218868437227405312 = some 9218868437227405312) := hid (by decide)
      clear hI hn
      go_enter Try.func32, Try.ntmps32
      go_wp2_with (first | (go_at_call 82; refine (CN _).mono ?_; rintro e wq ⟨rfl, eq⟩; rw [eq]; clear eq wq) | (go_at_call 83; refine (CI _).mono ?_; rintro e wq ⟨rfl, eq⟩; rw [eq]; clear eq wq))
      go_ret
      exact ⟨_, rfl, by rw [HO.out]; rfl, Below.refl _ _⟩
    · have hk : fkey x = 0 := by unfold fkey; rw [h0]; cases sgn x <;> rfl
      rw [hI, hk, decide_eq_false (by decide)] at CI
      obtain ⟨t1, t2, t3⟩ := tests_zero hn hk
      have HO : Hid (aboveO x = some 1) := hid (by
        unfold aboveO
        rw [hn, if_neg (by decide), if_neg (fun h => by rw [h] at h0; exact absurd h0 (by decide)), if_pos h0])
      clear h0 hk hn hI
      go_enter Try.func32, Try.ntmps32
      go_wp2_with (first | (go_at_call 82; refine (CN _).mono ?_; rintro e wq ⟨rfl, eq⟩; rw [eq]; clear eq wq) | (go_at_call 83; refine (CI _).mono ?_; rintro e wq ⟨rfl, eq⟩; rw [eq]; clear eq wq))
      go_ret
      exact ⟨_, rfl, by rw [HO.out]; rfl, Below.refl _ _⟩
    · obtain ⟨g1, g2⟩ := parts_great (r := r) (by omega)
      have HO : Hid (aboveO (9223372036854775808 + r) = some (9223372036854775808 + (r - 1))) := hid (by
        unfold aboveO
        rw [hn, if_neg (by decide), if_neg (by omega), g2, if_neg (by omega), g1, if_pos rfl]
        congr 1
        omega)
      have hk : fkey (9223372036854775808 + r) < 0 := by unfold fkey; rw [g1, g2, if_pos rfl]; omega
      rw [hI, decide_eq_false (by omega)] at CI
      obtain ⟨t1, t2, t3⟩ := tests_neg hn hk
      clear hI hn hk g1 g2
      generalize hX : 9223372036854775808 + r = X at *
      go_enter Try.func32, Try.ntmps32
      go_wp2_with (first | (go_at_call 82; refine (CN _).mono ?_; rintro e wq ⟨rfl, eq⟩; rw [eq]; clear eq wq) | (go_at_call 83; refine (CI _).mono ?_; rintro e wq ⟨rfl, eq⟩; rw [eq]; clear eq wq))
      go_ret
      exact ⟨_, rfl, by rw [HO.out]; show (_ : Nat) = _; omega, Below.refl _ _⟩
    · have hb : x < 9223372036854775808 := by omega
      have g1 := sgn_small hb
      have g2 := rg_small hb
      have hk : fkey x = x := by unfold fkey; rw [g1, g2, if_neg (by decide)]
      rw [hI, hk, decide_eq_false (by omega)] at CI
      obtain ⟨t1, t2, t3⟩ := tests_pos hn (by rw [hk]; omega)
      have HO : Hid (aboveO x = some (x + 1)) := hid (by
        unfold aboveO
        rw [hn, if_neg (by decide), if_neg (by omega), g2, if_neg (by omega), g1, if_neg (by decide)])
      clear hI hn hk g1 g2
      go_enter Try.func32, Try.ntmps32
      go_wp2_with (first | (go_at_call 82; refine (CN _).mono ?_; rintro e wq ⟨rfl, eq⟩; rw [eq]; clear eq wq) | (go_at_call 83; refine (CI _).mono ?_; rintro e wq ⟨rfl, eq⟩; rw [eq]; clear eq wq))
      go_ret
      exact ⟨_, rfl, by rw [HO.out]; show (_ : Nat) = _; omega, Below.refl _ _⟩

end Go.Proofs.Ytpecdbgbiecdgaa
