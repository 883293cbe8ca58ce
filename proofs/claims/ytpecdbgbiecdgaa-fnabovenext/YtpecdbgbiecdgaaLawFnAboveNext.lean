/- FnAboveNext, walked: it answers true. -/
import Derived.Test.YtpecdbgbiecdgaaDrawLaw
import Derived.Test.YtpecdbgbiecdgaaWithPlain
import Derived.Test.YtpecdbgbiecdgaaNextPlain
import Derived.Test.YtpecdbgbiecdgaaLawAbove
namespace Go.Proofs.Ytpecdbgbiecdgaa
open Go.RowKit
open Go.Lib (hid)

attribute [local go_sem] run_fadd run_fsub run_fmul run_fquo

theorem drawn_known (w : World) (q : Option Addr) (n c : Nat) (hn : n ≤ 1048576) (hq : TBytes w q n) :
    Calls Try.prog 80 #[.slice q n c] w fun e w' => ∃ x : Nat, e = .returned (.float .f64 x) ∧ x < 18446744073709551616 ∧ Below w.heap.size w w' := by
  have HQ := hid hq
  clear hq
  go_enter Try.func80, Try.ntmps80
  go_wp2_with (go_at_call 89; refine (d_open _ q n c hn HQ.out).mono ?_; rintro e w1 ⟨rfl, hr1, hb1⟩; refine Hid.out ?_)
  refine hid ?_
  have HR1 := hid hr1
  have HB1 := hid hb1
  clear hr1 hb1
  go_wp2_with (go_at_call 90; refine (d_float _ _ _ _ _ HR1.out).mono ?_; unfold DrawnF; rintro e w2 ⟨x, rfl, hx, hr2, hs2⟩; refine Hid.out ?_)
  refine hid ?_
  have HB2 := hid (step_tail HB1.out hs2 (Nat.le_refl _))
  have HX := hid hx
  clear hr2 hs2 hx HB1 HR1
  go_wp2
  go_ret
  exact ⟨_, rfl, HX.out, HB2.out⟩

theorem drawn_above (w : World) (q : Option Addr) (n c : Nat) (hn : n ≤ 1048576) (hq : TBytes w q n) :
    Calls Try.prog 31 #[.slice q n c] w fun e w' => ∃ x : Nat, e = .returned (.float .f64 x) ∧ x < 18446744073709551616 ∧ Below w.heap.size w w' := by
  have HQ := hid hq
  clear hq
  go_enter Try.func31, Try.ntmps31
  go_wp2_with (go_at_call 80; refine (drawn_known _ q n c hn HQ.out).mono ?_; rintro e w1 ⟨x, rfl, hx, hb1⟩; have HX := hid hx; have HB1 := hid hb1; clear hx hb1)
  go_ret
  exact ⟨_, rfl, HX.out, HB1.out⟩

theorem same_spec_told {o : Option Nat} {a b : Nat} (ho : ∀ r, o = some r → r < 18446744073709551616) (ha : FS o a) (hb : FS o b) (w : World) : Calls Try.prog 33 #[.float .f64 a, .float .f64 b] w fun e w' => e = .returned (.bool true) ∧ w' = w := by
  have := same_spec a b (told_lt ho ha) (told_lt ho hb) w
  rw [same_told ha hb] at this
  exact this

theorem same_impl_told {o : Option Nat} {a b : Nat} (ha : FS o a) (hb : FS o b) (w : World) : Calls Try.prog 35 #[.float .f64 a, .float .f64 b] w fun e w' => e = .returned (.bool true) ∧ w' = w := by
  have := same_impl a b w
  rw [same_told ha hb] at this
  exact this

theorem ivalN_lt {a b : Nat} (h : fkey a < fkey b) : ival a < ival b := by
  unfold fkey at h
  unfold ival
  revert h
  cases sgn a <;> cases sgn b <;> simp only [if_true, if_false, Bool.false_eq_true] <;> intro h
  · have := vr_lt (show rg a < rg b by omega)
    omega
  · omega
  · rcases Nat.eq_zero_or_pos (rg a) with h1 | h1
    · have := vr_lt (show 0 < rg b by omega)
      rw [vr_zero] at this
      rw [h1, vr_zero]
      omega
    · have := vr_lt h1
      rw [vr_zero] at this
      omega
  · have := vr_lt (show rg b < rg a by omega)
    omega

/-- The three ways: a NaN; the infinity; what has a next one. -/
theorem above_ways (x : Nat) (hx : x < 18446744073709551616) : (nanB x = true ∧ aboveO x = none) ∨ (nanB x = false ∧ x = 9218868437227405312 ∧ aboveO x = some x) ∨ (nanB x = false ∧ ∃ y, aboveO x = some y ∧ y < 18446744073709551616 ∧ nanB y = false ∧ fkey y = fkey x + 1 ∧ (finB x = true ∨ (FloatKind.f64.format.order x 0 == some .gt) = false)) := by
  rcases above_cases x hx with hn | ⟨hn, h⟩
  · exact .inl ⟨hn, by unfold aboveO; rw [if_pos hn]⟩
  · right
    rcases h with rfl | h0 | ⟨r, r0, r1, rfl⟩ | ⟨x0, x1⟩
    · exact .inl ⟨hn, rfl, by decide⟩
    · right
      refine ⟨hn, 1, ?_, by decide, by decide, ?_, .inl ?_⟩
      · unfold aboveO
        rw [hn, if_neg (by decide), if_neg (fun h => by rw [h] at h0; exact absurd h0 (by decide)), if_pos h0]
      · have hk : fkey x = 0 := by unfold fkey; rw [h0]; cases sgn x <;> rfl
        rw [hk]
        decide
      · unfold finB
        rw [h0]
        decide
    · right
      obtain ⟨g1, g2⟩ := parts_great (r := r) (by omega)
      obtain ⟨k1, k2⟩ := parts_great (r := r - 1) (by omega)
      have hk : fkey (9223372036854775808 + r) = -(r : Int) := by unfold fkey; rw [g1, g2, if_pos rfl]
      refine ⟨hn, 9223372036854775808 + (r - 1), ?_, by omega, ?_, ?_, .inr ?_⟩
      · unfold aboveO
        rw [hn, if_neg (by decide), if_neg (by omega), g2, if_neg (by omega), g1, if_pos rfl]
        congr 1
        omega
      · unfold nanB
        rw [k2]
        exact decide_eq_false (by omega)
      · rw [hk]
        unfold fkey
        rw [k1, k2, if_pos rfl]
        omega
      · exact (tests_neg hn (by rw [hk]; omega)).1
    · right
      have hb : x < 9223372036854775808 := by omega
      have g1 := sgn_small hb
      have g2 := rg_small hb
      have k1 := sgn_small (r := x + 1) (by omega)
      have k2 := rg_small (r := x + 1) (by omega)
      refine ⟨hn, x + 1, ?_, by omega, ?_, ?_, .inl ?_⟩
      · unfold aboveO
        rw [hn, if_neg (by decide), if_neg (by omega), g2, if_neg (by omega), g1, if_neg (by decide)]
      · unfold nanB
        rw [k2]
        exact decide_eq_false (by omega)
      · unfold fkey
        rw [g1, g2, k1, k2, if_neg (by decide), if_neg (by decide)]
        omega
      · unfold finB
        rw [g2]
        exact decide_eq_true x1

theorem eq_keyB {x y : Nat} (hx : nanB x = false) (hy : nanB y = false) : (FloatKind.f64.format.order x y == some .eq) = decide (fkey x = fkey y) := by
  rw [f64_format, order_key hx hy]
  rcases Int.lt_trichotomy (fkey x) (fkey y) with h | h | h
  · rw [cmp_lt h, decide_eq_false (by omega)]; rfl
  · rw [cmp_eq h, decide_eq_true h]; rfl
  · rw [cmp_gt h, decide_eq_false (by omega)]; rfl
theorem gt_keyB {x y : Nat} (hx : nanB x = false) (hy : nanB y = false) : (FloatKind.f64.format.order x y == some .gt) = decide (fkey y < fkey x) := by
  rw [f64_format, order_key hx hy]
  rcases Int.lt_trichotomy (fkey x) (fkey y) with h | h | h
  · rw [cmp_lt h, decide_eq_false (by omega)]; rfl
  · rw [cmp_eq h, decide_eq_false (by omega)]; rfl
  · rw [cmp_gt h, decide_eq_true h]; rfl
theorem fin_notnan {x : Nat} (h : finB x = true) : nanB x = false := by
  cases hn : nanB x with
  | false => rfl
  | true => rw [nan_notfin hn] at h; cases h

set_option maxRecDepth 20000 in
set_option maxHeartbeats 4000000 in
theorem law_fnabovenext (w : World) (q : Option Addr) (n c : Nat) (hq : TBytes w q n) :
    Calls Try.prog 6 #[.slice q n c] w fun e w' => e = .returned (.bool true) ∧ Below w.heap.size w w' := by
  have HQ := hid hq
  clear hq
  by_cases hn : n ≤ 1048576
  · have hd : decide ((n : Int) > 1048576) = false := decide_eq_false (by omega)
    have CB := hid (fun W => big_callsF q n c W)
    rw [hd] at CB
    clear hd
    go_enter Try.func6, Try.ntmps6
    go_wp2_with (go_at_call 30; refine (CB.out _).mono ?_; rintro e wq ⟨rfl, eq⟩; rw [eq]; clear eq wq; refine Hid.out ?_)
    refine hid ?_
    go_wp2_with (go_at_call 31; refine (drawn_above _ q n c hn HQ.out).mono ?_; rintro e w1 ⟨x, rfl, hx, hb1⟩; refine Hid.out ?_)
    refine hid ?_
    have HB := hid hb1
    have HX := hid hx
    clear hb1 CB HQ
    have HW := hid (above_ways x hx)
    have CA := hid (fun W => above_spec x hx W)
    have CI := hid (fun W => above_impl x hx W)
    unfold FPost at CA CI
    have CN := hid (fun W => known_impl x hx W)
    clear hx
    have HL : Hid (∀ r, aboveO x = some r → r < 18446744073709551616) := hid (fun r h => by
      rcases HW.out with ⟨_, h2⟩ | ⟨_, h1, h2⟩ | ⟨_, y, h2, h3, _⟩
      · rw [h2] at h; cases h
      · rw [h2] at h; injection h with h; rw [← h]; exact HX.out
      · rw [h2] at h; injection h with h; rw [← h]; exact h3)
    go_wp2_with (go_at_call 32; refine (CI.out _).mono ?_; rintro e w2 ⟨y, rfl, hy, hb2⟩; refine Hid.out ?_)
    refine hid ?_
    have HY := hid hy
    have HB2 := hid (HB.out.trans (hb2.mono HB.out.size))
    clear hy hb2 HB CI
    rcases HW.out with ⟨h1, h2⟩ | ⟨h1, hx2, h2⟩ | ⟨h1, y0, h2, h3, h4, h5, h6⟩
    · have hf := nan_notfin h1
      have CK := hid (fun W => known_inf hf W)
      rw [hf] at CN
      have e1 := ne_nan h1
      have HS : Hid (FS (aboveO x) x) := hid (by rw [h2]; exact h1)
      clear h1 h2 hf HW HX
      go_wp2_with (first | (go_at_call 34; refine (CA.out _).mono ?_; rintro e w3 ⟨y3, rfl, hy3, hb3⟩; have HY3 := hid hy3; have HB2 := hid (HB2.out.trans (hb3.mono HB2.out.size)); clear hy3 hb3) | (go_at_call 33; refine (same_spec_told HL.out HY.out HY3.out _).mono ?_; rintro e wq ⟨rfl, eq⟩; rw [eq]; clear eq wq) | (go_at_call 35; refine (same_impl_told HY.out (by first | exact HY3.out | exact HS.out) _).mono ?_; rintro e wq ⟨rfl, eq⟩; rw [eq]; clear eq wq) | (go_at_call 36; refine (CN.out _).mono ?_; rintro e wq ⟨rfl, eq⟩; rw [eq]; clear eq wq) | (go_at_call 37; refine (CK.out _).mono ?_; rintro e w4 ⟨rfl, hb4⟩; have HB2 := hid (HB2.out.trans (hb4.mono HB2.out.size)); clear hb4))
      go_ret
      exact ⟨rfl, HB2.out⟩
    · have hf : finB x = false := by rw [hx2]; decide
      have CK := hid (fun W => known_inf hf W)
      rw [hf] at CN
      have e1 := ne_self h1
      have t1 := (tests_pos h1 (by rw [hx2]; decide)).1
      have HS : Hid (FS (aboveO x) x) := hid (by rw [h2]; rfl)
      clear h1 h2 hf HW HX hx2
      go_wp2_with (first | (go_at_call 34; refine (CA.out _).mono ?_; rintro e w3 ⟨y3, rfl, hy3, hb3⟩; have HY3 := hid hy3; have HB2 := hid (HB2.out.trans (hb3.mono HB2.out.size)); clear hy3 hb3) | (go_at_call 33; refine (same_spec_told HL.out HY.out HY3.out _).mono ?_; rintro e wq ⟨rfl, eq⟩; rw [eq]; clear eq wq) | (go_at_call 35; refine (same_impl_told HY.out (by first | exact HY3.out | exact HS.out) _).mono ?_; rintro e wq ⟨rfl, eq⟩; rw [eq]; clear eq wq) | (go_at_call 36; refine (CN.out _).mono ?_; rintro e wq ⟨rfl, eq⟩; rw [eq]; clear eq wq) | (go_at_call 37; refine (CK.out _).mono ?_; rintro e w4 ⟨rfl, hb4⟩; have HB2 := hid (HB2.out.trans (hb4.mono HB2.out.size)); clear hb4))
      go_ret
      exact ⟨rfl, HB2.out⟩
    · have hyy : y = y0 := by have := HY.out; rw [h2] at this; exact this
      subst hyy
      have e1 := ne_self h1
      have e2 : (FloatKind.f64.format.order y x == some .gt) = true := by rw [gt_keyB h4 h1, decide_eq_true (by omega)]
      cases hf : finB x with
      | false =>
        have t1 : (FloatKind.f64.format.order x 0 == some .gt) = false := by
          rcases h6 with h6 | h6
          · rw [hf] at h6; cases h6
          · exact h6
        have CK := hid (fun W => known_inf hf W)
        rw [hf] at CN
        clear h1 h2 h3 h4 h5 h6 hf HW HX
        go_wp2_with (first | (go_at_call 34; refine (CA.out _).mono ?_; rintro e w3 ⟨y3, rfl, hy3, hb3⟩; have HY3 := hid hy3; have HB2 := hid (HB2.out.trans (hb3.mono HB2.out.size)); clear hy3 hb3) | (go_at_call 33; refine (same_spec_told HL.out HY.out HY3.out _).mono ?_; rintro e wq ⟨rfl, eq⟩; rw [eq]; clear eq wq) | (go_at_call 35; refine (same_impl_told HY.out (by first | exact HY3.out | exact HS.out) _).mono ?_; rintro e wq ⟨rfl, eq⟩; rw [eq]; clear eq wq) | (go_at_call 36; refine (CN.out _).mono ?_; rintro e wq ⟨rfl, eq⟩; rw [eq]; clear eq wq) | (go_at_call 37; refine (CK.out _).mono ?_; rintro e w4 ⟨rfl, hb4⟩; have HB2 := hid (HB2.out.trans (hb4.mono HB2.out.size)); clear hb4))
        go_ret
        exact ⟨rfl, HB2.out⟩
      | true =>
        have CK := hid (fun W => known_fin hf W)
        rw [hf] at CN
        cases hg : finB y with
        | false =>
          have CKy := hid (fun W => known_inf hg W)
          clear h1 h2 h3 h4 h5 h6 hf hg HW HX
          cases t1 : (FloatKind.f64.format.order x 0 == some .gt) with
          | true =>
            go_wp2_with (first | (go_at_call 34; refine (CA.out _).mono ?_; rintro e w3 ⟨y3, rfl, hy3, hb3⟩; have HY3 := hid hy3; have HB2 := hid (HB2.out.trans (hb3.mono HB2.out.size)); clear hy3 hb3) | (go_at_call 33; refine (same_spec_told HL.out HY.out HY3.out _).mono ?_; rintro e wq ⟨rfl, eq⟩; rw [eq]; clear eq wq) | (go_at_call 35; refine (same_impl_told HY.out (by first | exact HY3.out | exact HS.out) _).mono ?_; rintro e wq ⟨rfl, eq⟩; rw [eq]; clear eq wq) | (go_at_call 36; refine (CN.out _).mono ?_; rintro e wq ⟨rfl, eq⟩; rw [eq]; clear eq wq) | (go_at_call 37; refine (CK.out _).mono ?_; rintro e wq ⟨rfl, eq⟩; rw [eq]; clear eq wq) | (go_at_call 37; refine (CKy.out _).mono ?_; rintro e w4 ⟨rfl, hb4⟩; have HB2 := hid (HB2.out.trans (hb4.mono HB2.out.size)); clear hb4))
            go_ret
            exact ⟨rfl, HB2.out⟩
          | false =>
            go_wp2_with (first | (go_at_call 34; refine (CA.out _).mono ?_; rintro e w3 ⟨y3, rfl, hy3, hb3⟩; have HY3 := hid hy3; have HB2 := hid (HB2.out.trans (hb3.mono HB2.out.size)); clear hy3 hb3) | (go_at_call 33; refine (same_spec_told HL.out HY.out HY3.out _).mono ?_; rintro e wq ⟨rfl, eq⟩; rw [eq]; clear eq wq) | (go_at_call 35; refine (same_impl_told HY.out (by first | exact HY3.out | exact HS.out) _).mono ?_; rintro e wq ⟨rfl, eq⟩; rw [eq]; clear eq wq) | (go_at_call 36; refine (CN.out _).mono ?_; rintro e wq ⟨rfl, eq⟩; rw [eq]; clear eq wq) | (go_at_call 37; refine (CK.out _).mono ?_; rintro e wq ⟨rfl, eq⟩; rw [eq]; clear eq wq) | (go_at_call 37; refine (CKy.out _).mono ?_; rintro e w4 ⟨rfl, hb4⟩; have HB2 := hid (HB2.out.trans (hb4.mono HB2.out.size)); clear hb4))
            go_ret
            exact ⟨rfl, HB2.out⟩
        | true =>
          have CKy := hid (fun W => known_fin hg W)
          obtain ⟨a, ha, _⟩ := half_ival hf
          obtain ⟨b, hb, _⟩ := half_ival hg
          obtain ⟨r, hr, hrn, k1, k2⟩ := mid_key hf hg (ivalN_lt (by omega)) ha hb
          have a1 := fb_some ha
          have a2 := fw_some ha
          have b1 := fb_some hb
          have b2 := fw_some hb
          have r1 := fb_some hr
          have r2 := fw_some hr
          have l1 := le_key hrn h4
          rw [decide_eq_true k2] at l1
          unfold leB at l1
          have q1 := eq_keyB hrn h1
          have q2 := eq_keyB hrn h4
          have HK : Hid ((FloatKind.f64.format.order r x == some .eq) = true ∨ ((FloatKind.f64.format.order r x == some .eq) = false ∧ (FloatKind.f64.format.order r y == some .eq) = true)) := hid (by
            rw [q1, q2]
            by_cases hk : fkey r = fkey x
            · exact .inl (decide_eq_true hk)
            · exact .inr ⟨decide_eq_false hk, decide_eq_true (by omega)⟩)
          clear q1 q2 k1 k2 ha hb hr hrn h1 h2 h3 h4 h5 h6 hf hg HW HX
          cases t1 : (FloatKind.f64.format.order x 0 == some .gt) with
          | true =>
            rcases HK.out with q1 | ⟨q1, q2⟩
            · go_wp2_with (first | (go_at_call 34; refine (CA.out _).mono ?_; rintro e w3 ⟨y3, rfl, hy3, hb3⟩; have HY3 := hid hy3; have HB2 := hid (HB2.out.trans (hb3.mono HB2.out.size)); clear hy3 hb3) | (go_at_call 33; refine (same_spec_told HL.out HY.out HY3.out _).mono ?_; rintro e wq ⟨rfl, eq⟩; rw [eq]; clear eq wq) | (go_at_call 35; refine (same_impl_told HY.out (by first | exact HY3.out | exact HS.out) _).mono ?_; rintro e wq ⟨rfl, eq⟩; rw [eq]; clear eq wq) | (go_at_call 36; refine (CN.out _).mono ?_; rintro e wq ⟨rfl, eq⟩; rw [eq]; clear eq wq) | (go_at_call 37; refine (CK.out _).mono ?_; rintro e wq ⟨rfl, eq⟩; rw [eq]; clear eq wq) | (go_at_call 37; refine (CKy.out _).mono ?_; rintro e wq ⟨rfl, eq⟩; rw [eq]; clear eq wq))
              go_ret
              exact ⟨rfl, HB2.out⟩
            · go_wp2_with (first | (go_at_call 34; refine (CA.out _).mono ?_; rintro e w3 ⟨y3, rfl, hy3, hb3⟩; have HY3 := hid hy3; have HB2 := hid (HB2.out.trans (hb3.mono HB2.out.size)); clear hy3 hb3) | (go_at_call 33; refine (same_spec_told HL.out HY.out HY3.out _).mono ?_; rintro e wq ⟨rfl, eq⟩; rw [eq]; clear eq wq) | (go_at_call 35; refine (same_impl_told HY.out (by first | exact HY3.out | exact HS.out) _).mono ?_; rintro e wq ⟨rfl, eq⟩; rw [eq]; clear eq wq) | (go_at_call 36; refine (CN.out _).mono ?_; rintro e wq ⟨rfl, eq⟩; rw [eq]; clear eq wq) | (go_at_call 37; refine (CK.out _).mono ?_; rintro e wq ⟨rfl, eq⟩; rw [eq]; clear eq wq) | (go_at_call 37; refine (CKy.out _).mono ?_; rintro e wq ⟨rfl, eq⟩; rw [eq]; clear eq wq))
              go_ret
              exact ⟨rfl, HB2.out⟩
          | false =>
            rcases HK.out with q1 | ⟨q1, q2⟩
            · go_wp2_with (first | (go_at_call 34; refine (CA.out _).mono ?_; rintro e w3 ⟨y3, rfl, hy3, hb3⟩; have HY3 := hid hy3; have HB2 := hid (HB2.out.trans (hb3.mono HB2.out.size)); clear hy3 hb3) | (go_at_call 33; refine (same_spec_told HL.out HY.out HY3.out _).mono ?_; rintro e wq ⟨rfl, eq⟩; rw [eq]; clear eq wq) | (go_at_call 35; refine (same_impl_told HY.out (by first | exact HY3.out | exact HS.out) _).mono ?_; rintro e wq ⟨rfl, eq⟩; rw [eq]; clear eq wq) | (go_at_call 36; refine (CN.out _).mono ?_; rintro e wq ⟨rfl, eq⟩; rw [eq]; clear eq wq) | (go_at_call 37; refine (CK.out _).mono ?_; rintro e wq ⟨rfl, eq⟩; rw [eq]; clear eq wq) | (go_at_call 37; refine (CKy.out _).mono ?_; rintro e wq ⟨rfl, eq⟩; rw [eq]; clear eq wq))
              go_ret
              exact ⟨rfl, HB2.out⟩
            · go_wp2_with (first | (go_at_call 34; refine (CA.out _).mono ?_; rintro e w3 ⟨y3, rfl, hy3, hb3⟩; have HY3 := hid hy3; have HB2 := hid (HB2.out.trans (hb3.mono HB2.out.size)); clear hy3 hb3) | (go_at_call 33; refine (same_spec_told HL.out HY.out HY3.out _).mono ?_; rintro e wq ⟨rfl, eq⟩; rw [eq]; clear eq wq) | (go_at_call 35; refine (same_impl_told HY.out (by first | exact HY3.out | exact HS.out) _).mono ?_; rintro e wq ⟨rfl, eq⟩; rw [eq]; clear eq wq) | (go_at_call 36; refine (CN.out _).mono ?_; rintro e wq ⟨rfl, eq⟩; rw [eq]; clear eq wq) | (go_at_call 37; refine (CK.out _).mono ?_; rintro e wq ⟨rfl, eq⟩; rw [eq]; clear eq wq) | (go_at_call 37; refine (CKy.out _).mono ?_; rintro e wq ⟨rfl, eq⟩; rw [eq]; clear eq wq))
              go_ret
              exact ⟨rfl, HB2.out⟩
  · have hd : decide ((n : Int) > 1048576) = true := decide_eq_true (by omega)
    go_enter Try.func6, Try.ntmps6
    go_wp2_with (go_at_call 30; refine (big_callsF q n c _).mono ?_; rintro e wq ⟨rfl, eq⟩; rw [eq, hd]; clear eq wq)
    go_ret
    exact ⟨rfl, Below.refl _ _⟩
end Go.Proofs.Ytpecdbgbiecdgaa
