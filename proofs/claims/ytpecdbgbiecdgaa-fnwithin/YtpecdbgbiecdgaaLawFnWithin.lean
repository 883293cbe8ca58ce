/- FnWithin, walked: it answers true. -/
import Derived.Test.YtpecdbgbiecdgaaDrawLaw
import Derived.Test.YtpecdbgbiecdgaaWithPlain
namespace Go.Proofs.Ytpecdbgbiecdgaa
open Go.RowKit
open Go.Lib (hid)

set_option maxRecDepth 20000 in
set_option maxHeartbeats 2000000 in
theorem drawn_within (w : World) (q : Option Addr) (n c : Nat) (hn : n ≤ 1048576) (hq : TBytes w q n) :
    Calls Try.prog 39 #[.slice q n c] w fun e w' => ∃ x y z : Nat, e = .returned (.tuple #[.float .f64 x, .float .f64 y, .float .f64 z]) ∧ x < 18446744073709551616 ∧ y < 18446744073709551616 ∧ z < 18446744073709551616 ∧ Below w.heap.size w w' := by
  have HQ := hid hq
  clear hq
  go_enter Try.func39, Try.ntmps39
  go_wp2_with (go_at_call 89; refine (d_open _ q n c hn HQ.out).mono ?_; rintro e w1 ⟨rfl, hr1, hb1⟩; refine Hid.out ?_)
  refine hid ?_
  have HR1 := hid hr1
  have HB1 := hid hb1
  clear hr1 hb1
  go_wp2_with (go_at_call 90; refine (d_float _ _ _ _ _ HR1.out).mono ?_; unfold DrawnF; rintro e w2 ⟨x, rfl, hx, hr2, hs2⟩; refine Hid.out ?_)
  refine hid ?_
  have HR2 := hid hr2
  have HB2 := hid (step_tail HB1.out hs2 (Nat.le_refl _))
  have HX := hid hx
  clear hr2 hs2 hx HB1 HR1
  go_wp2_with (go_at_call 90; refine (d_float _ _ _ _ _ HR2.out).mono ?_; unfold DrawnF; rintro e w3 ⟨y, rfl, hy, hr3, hs3⟩; refine Hid.out ?_)
  refine hid ?_
  have HR3 := hid hr3
  have HB3 := hid (step_tail HB2.out hs3 (Nat.le_refl _))
  have HY := hid hy
  clear hr3 hs3 hy HB2 HR2
  cases hg : (FloatKind.f64.format.order x y == some .gt) with
  | false =>
    go_wp2_with (go_at_call 90; refine (d_float _ _ _ _ _ HR3.out).mono ?_; unfold DrawnF; rintro e w4 ⟨z, rfl, hz, hr4, hs4⟩; refine Hid.out ?_)
    refine hid ?_
    have HB4 := hid (step_tail HB3.out hs4 (Nat.le_refl _))
    have HZ := hid hz
    clear hr4 hs4 hz HB3 HR3
    go_wp2
    exact bodyPost_ret (v := .tuple #[.float .f64 z, .float .f64 x, .float .f64 y]) (by simp [results, Try.results39, go_sem]) rfl ⟨_, _, _, rfl, HZ.out, HX.out, HY.out, HB4.out⟩
  | true =>
    go_wp2_with (go_at_call 91; refine (d_once 6 (by omega) (by omega) _ _ _ _ _ HR3.out).mono ?_; rintro e w5 ⟨t, rfl, hr5, hs5⟩; refine Hid.out ?_)
    refine hid ?_
    have HR5 := hid hr5
    have HB5 := hid (step_tail HB3.out hs5 (Nat.le_refl _))
    clear hr5 hs5 HB3 HR3
    cases t with
    | true =>
      go_wp2_with (go_at_call 90; refine (d_float _ _ _ _ _ HR5.out).mono ?_; unfold DrawnF; rintro e w4 ⟨z, rfl, hz, hr4, hs4⟩; refine Hid.out ?_)
      refine hid ?_
      have HB4 := hid (step_tail HB5.out hs4 (Nat.le_refl _))
      have HZ := hid hz
      clear hr4 hs4 hz HB5 HR5
      go_wp2
      exact bodyPost_ret (v := .tuple #[.float .f64 z, .float .f64 x, .float .f64 y]) (by simp [results, Try.results39, go_sem]) rfl ⟨_, _, _, rfl, HZ.out, HX.out, HY.out, HB4.out⟩
    | false =>
      go_wp2_with (go_at_call 90; refine (d_float _ _ _ _ _ HR5.out).mono ?_; unfold DrawnF; rintro e w4 ⟨z, rfl, hz, hr4, hs4⟩; refine Hid.out ?_)
      refine hid ?_
      have HB4 := hid (step_tail HB5.out hs4 (Nat.le_refl _))
      have HZ := hid hz
      clear hr4 hs4 hz HB5 HR5
      go_wp2
      exact bodyPost_ret (v := .tuple #[.float .f64 z, .float .f64 y, .float .f64 x]) (by simp [results, Try.results39, go_sem]) rfl ⟨_, _, _, rfl, HZ.out, HY.out, HX.out, HB4.out⟩

theorem wit_lt {x low high : Nat} (hx : x < 18446744073709551616) (hl : low < 18446744073709551616) (hh : high < 18446744073709551616) : ∀ y, witO x low high = some y → y < 18446744073709551616 := by
  intro y h
  unfold witO at h
  split at h
  · cases h
  · split at h
    · injection h with h; omega
    · split at h <;> injection h with h <;> omega

set_option maxRecDepth 20000 in
set_option maxHeartbeats 4000000 in
theorem law_fnwithin (w : World) (q : Option Addr) (n c : Nat) (hq : TBytes w q n) :
    Calls Try.prog 7 #[.slice q n c] w fun e w' => e = .returned (.bool true) ∧ Below w.heap.size w w' := by
  have HQ := hid hq
  clear hq
  by_cases hn : n ≤ 1048576
  · have hd : decide ((n : Int) > 1048576) = false := decide_eq_false (by omega)
    have CB := hid (fun W => big_callsF q n c W)
    rw [hd] at CB
    clear hd
    go_enter Try.func7, Try.ntmps7
    go_wp2_with (go_at_call 30; refine (CB.out _).mono ?_; rintro e wq ⟨rfl, eq⟩; rw [eq]; clear eq wq; refine Hid.out ?_)
    refine hid ?_
    go_wp2_with (go_at_call 39; refine (drawn_within _ q n c hn HQ.out).mono ?_; rintro e w1 ⟨x, low, high, rfl, hx, hl, hh, hb1⟩; refine Hid.out ?_)
    refine hid ?_
    have HB1 := hid hb1
    have HX := hid hx
    have HL := hid (wit_lt hx hl hh)
    clear hb1 hx hl hh CB
    go_wp2_with (go_at_call 40; refine (within_impl x low high _).mono ?_; unfold FPost; rintro e w2 ⟨y, rfl, hy, hb2⟩; refine Hid.out ?_)
    refine hid ?_
    have HY := hid hy
    have HB2 := hid (HB1.out.trans (hb2.mono HB1.out.size))
    clear hy hb2 HB1
    go_wp2_with (go_at_call 41; refine (within_spec x low high _).mono ?_; unfold FPost; rintro e w3 ⟨y3, rfl, hy3, hb3⟩; refine Hid.out ?_)
    refine hid ?_
    have HY3 := hid hy3
    have HB3 := hid (HB2.out.trans (hb3.mono HB2.out.size))
    have CS := hid (fun W => same_spec y y3 (told_lt HL.out HY.out) (told_lt HL.out hy3) W)
    rw [same_told HY.out hy3] at CS
    clear hy3 hb3 HB2
    cases ho : witO x low high with
    | none =>
      have hyn : nanB y = true := by have := HY.out; rw [ho] at this; exact this
      have e0 := ord_nan hyn y
      have hw := wit_none ho
      clear ho
      cases h1 : nanB low with
      | true =>
        have e1 := ord_nan h1 low
        go_wp2_with (go_at_call 33; refine (CS.out _).mono ?_; rintro e wq ⟨rfl, eq⟩; rw [eq]; clear eq wq)
        go_ret
        exact ⟨rfl, HB3.out⟩
      | false =>
        have e1 := ord_self h1
        cases h2 : nanB high with
        | true =>
          have e2 := ord_nan h2 high
          go_wp2_with (go_at_call 33; refine (CS.out _).mono ?_; rintro e wq ⟨rfl, eq⟩; rw [eq]; clear eq wq)
          go_ret
          exact ⟨rfl, HB3.out⟩
        | false =>
          have e2 := ord_self h2
          have e3 : FloatKind.f64.format.order low high = some .gt := by
            rcases hw with h | h | h
            · rw [h1] at h; cases h
            · rw [h2] at h; cases h
            · exact h
          clear hw
          go_wp2_with (go_at_call 33; refine (CS.out _).mono ?_; rintro e wq ⟨rfl, eq⟩; rw [eq]; clear eq wq)
          go_ret
          exact ⟨rfl, HB3.out⟩
    | some y0 =>
      have hy0 : y = y0 := by have := HY.out; rw [ho] at this; exact this
      subst hy0
      obtain ⟨h1, h2, h3, h4, h5, h6, h7, h8⟩ := wit_some ho
      have CW := hid (fun W => within_impl y low high W)
      rw [h8] at CW
      have e1 := ord_self h1
      have e2 := ord_self h2
      have e3 : (FloatKind.f64.format.order low high == some .gt) = false := by simpa using h3
      have H7 := hid h7
      have hss : sameB y y = true := by unfold sameB; simp
      unfold geB at h5
      unfold leB at h6
      clear ho h3 h7 h8 h1 h2
      cases hge : geB x low with
      | false =>
        unfold geB at hge
        go_wp2_with (first | (go_at_call 33; refine (CS.out _).mono ?_; rintro e wq ⟨rfl, eq⟩; rw [eq]; clear eq wq) | (go_at_call 40; refine (CW.out _).mono ?_; unfold FPost; rintro e w5 ⟨y5, rfl, hy5, hb5⟩; obtain rfl : y5 = y := hy5; have HB5 := hid (HB3.out.trans (hb5.mono HB3.out.size)); clear hb5) | (go_at_call 35; refine (same_impl _ _ _).mono ?_; rintro e wq ⟨rfl, eq⟩; rw [eq, hss]; clear eq wq))
        go_ret
        exact ⟨rfl, HB5.out⟩
      | true =>
        cases hle : leB x high with
        | false =>
          unfold geB at hge
          unfold leB at hle
          go_wp2_with (first | (go_at_call 33; refine (CS.out _).mono ?_; rintro e wq ⟨rfl, eq⟩; rw [eq]; clear eq wq) | (go_at_call 40; refine (CW.out _).mono ?_; unfold FPost; rintro e w5 ⟨y5, rfl, hy5, hb5⟩; obtain rfl : y5 = y := hy5; have HB5 := hid (HB3.out.trans (hb5.mono HB3.out.size)); clear hb5) | (go_at_call 35; refine (same_impl _ _ _).mono ?_; rintro e wq ⟨rfl, eq⟩; rw [eq, hss]; clear eq wq))
          go_ret
          exact ⟨rfl, HB5.out⟩
        | true =>
          have hyx : y = x := by
            rcases H7.out with h | h
            · rw [hge, hle] at h; cases h
            · exact h
          subst hyx
          unfold geB at hge
          unfold leB at hle
          clear hge hle
          go_wp2_with (first | (go_at_call 33; refine (CS.out _).mono ?_; rintro e wq ⟨rfl, eq⟩; rw [eq]; clear eq wq) | (go_at_call 40; refine (CW.out _).mono ?_; unfold FPost; rintro e w5 ⟨y5, rfl, hy5, hb5⟩; obtain rfl : y5 = y := hy5; have HB5 := hid (HB3.out.trans (hb5.mono HB3.out.size)); clear hb5) | (go_at_call 35; refine (same_impl _ _ _).mono ?_; rintro e wq ⟨rfl, eq⟩; rw [eq, hss]; clear eq wq))
          go_ret
          exact ⟨rfl, HB5.out⟩
  · have hd : decide ((n : Int) > 1048576) = true := decide_eq_true (by omega)
    go_enter Try.func7, Try.ntmps7
    go_wp2_with (go_at_call 30; refine (big_callsF q n c _).mono ?_; rintro e wq ⟨rfl, eq⟩; rw [eq, hd]; clear eq wq)
    go_ret
    exact ⟨rfl, Below.refl _ _⟩
end Go.Proofs.Ytpecdbgbiecdgaa
