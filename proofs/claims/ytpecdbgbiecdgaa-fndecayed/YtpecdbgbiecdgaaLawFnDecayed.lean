/- FnDecayed, walked: it answers true. -/
import Derived.Test.YtpecdbgbiecdgaaDrawLaw
import Derived.Test.YtpecdbgbiecdgaaDecPlain
namespace Go.Proofs.Ytpecdbgbiecdgaa
open Go.RowKit
open Go.Lib (hid)

attribute [local go_sem] run_fadd run_fsub run_fmul run_fquo run_fneg

theorem size_calls (x : Nat) (w : World) : Calls Try.prog 38 #[.float .f64 x] w fun e w' => e = .returned (.float .f64 (sizF x)) ∧ w' = w := by
  by_cases h : FloatKind.f64.format.order x 0 = some .lt
  · have HO : Hid (sizF x = Op.negFloat .f64 x) := hid (by unfold sizF; rw [if_pos h])
    go_enter Try.func38, Try.ntmps38
    go_wp2
    go_ret
    exact ⟨by rw [HO.out]; rfl, rfl⟩
  · have HO : Hid (sizF x = x) := hid (by unfold sizF; rw [if_neg h])
    have e : (FloatKind.f64.format.order x 0 == some .lt) = false := by simpa using h
    clear h
    go_enter Try.func38, Try.ntmps38
    go_wp2
    go_ret
    exact ⟨by rw [HO.out]; rfl, rfl⟩

set_option maxRecDepth 20000 in
set_option maxHeartbeats 2000000 in
theorem drawn_decay (w : World) (q : Option Addr) (n c : Nat) (hn : n ≤ 1048576) (hq : TBytes w q n) :
    Calls Try.prog 42 #[.slice q n c] w fun e w' => ∃ (x : Nat) (k : Int), e = .returned (.tuple #[.float .f64 x, .int .i64 k]) ∧ x < 18446744073709551616 ∧ -9223372036854775808 ≤ k ∧ k ≤ 9223372036854775807 ∧ Below w.heap.size w w' := by
  have HQ := hid hq
  clear hq
  go_enter Try.func42, Try.ntmps42
  go_wp2_with (go_at_call 89; refine (d_open _ q n c hn HQ.out).mono ?_; rintro e w1 ⟨rfl, hr1, hb1⟩; refine Hid.out ?_)
  refine hid ?_
  have HR1 := hid hr1
  have HB1 := hid hb1
  clear hr1 hb1
  go_wp2_with (go_at_call 90; refine (d_float _ _ _ _ _ HR1.out).mono ?_; unfold DrawnF; rintro e w2 ⟨x, rfl, hx, hr2, hs2⟩; refine Hid.out ?_)
  refine hid ?_
  have HR2 := hid hr2
  have HB2 := hid (step_tail HB1.out hs2 (Nat.le_refl _))
  have HX := hid hx
  clear hr2 hs2 hx HB1 HR1
  go_wp2_with (go_at_call 93; refine (d_below 3 (by omega) _ _ _ _ _ (by exact HR2.out.below ((Below.refl _ _).alloc (Nat.le_refl _) _))).mono ?_; rintro e w3 ⟨u, rfl, ⟨hu0, hu1⟩, hr3, hs3⟩; refine Hid.out ?_)
  refine hid ?_
  have hp := pick_cells hs3 HR2.out.here
  have HR3 := hid hr3
  have HB3 := hid (step_tail (HB2.out.alloc HB2.out.size _) hs3 (Nat.le_refl _))
  have hu2 : u = 0 ∨ u = 1 ∨ u = 2 := by have := hu1 (by omega); omega
  clear hr3 hs3 HB2 HR2
  have p0 := hp 0 _ rfl
  have p1 := hp 1 _ rfl
  have p2 := hp 2 _ rfl
  clear hp hu0 hu1
  rcases hu2 with rfl | rfl | rfl
  all_goals
    go_wp2_with (go_at_call 92; refine (d_off _ _ (by omega) (by omega) (by omega) (by omega) _ _ _ _ _ HR3.out).mono ?_; rintro e w4 ⟨k, rfl, ⟨hk0, hk1⟩, hr4, hs4⟩; refine Hid.out ?_)
    refine hid ?_
    have HB4 := hid (step_tail HB3.out hs4 (Nat.le_refl _))
    clear hr4 hs4 HB3 HR3 p0 p1 p2
    go_wp2
    exact bodyPost_ret (v := .tuple #[.float .f64 x, .int .i64 k]) (by simp [results, Try.results42, go_sem]) rfl ⟨_, _, rfl, HX.out, hk0, hk1, HB4.out⟩

theorem dec_lt {x : Nat} (hx : x < 18446744073709551616) (k : Int) : ∀ y, decO x k = some y → y < 18446744073709551616 := by
  intro y h
  unfold decO at h
  split at h
  · revert h
    generalize k.toNat = n
    cases n with
    | zero => intro h; injection h with h; omega
    | succ n =>
      intro h
      have h : fop .mul (halvO x n) (some 4602678819172646912) = some y := h
      cases hh : halvO x n with
      | none => rw [hh] at h; cases h
      | some z =>
        rw [hh] at h
        have h : floatBits .mul .f64 z 4602678819172646912 = some y := h
        have := floatBits_wf h
        simp [Lit.wf] at this
        exact this
  · cases h

set_option maxRecDepth 20000 in
set_option maxHeartbeats 4000000 in
theorem law_fndecayed (w : World) (q : Option Addr) (n c : Nat) (hq : TBytes w q n) :
    Calls Try.prog 8 #[.slice q n c] w fun e w' => e = .returned (.bool true) ∧ Below w.heap.size w w' := by
  have HQ := hid hq
  clear hq
  by_cases hn : n ≤ 1048576
  · have hd : decide ((n : Int) > 1048576) = false := decide_eq_false (by omega)
    have CB := hid (fun W => big_callsF q n c W)
    rw [hd] at CB
    clear hd
    go_enter Try.func8, Try.ntmps8
    go_wp2_with (go_at_call 30; refine (CB.out _).mono ?_; rintro e wq ⟨rfl, eq⟩; rw [eq]; clear eq wq; refine Hid.out ?_)
    refine hid ?_
    go_wp2_with (go_at_call 42; refine (drawn_decay _ q n c hn HQ.out).mono ?_; rintro e w1 ⟨x, k, rfl, hx, hk0, hk1, hb1⟩; refine Hid.out ?_)
    refine hid ?_
    have HB1 := hid hb1
    have HL := hid (dec_lt hx k)
    clear hb1 hx CB
    go_wp2_with (go_at_call 43; refine (decay_impl x k _).mono ?_; unfold FPost; rintro e w2 ⟨y, rfl, hy, hb2⟩; refine Hid.out ?_)
    refine hid ?_
    have HY := hid hy
    have HB2 := hid (HB1.out.trans (hb2.mono HB1.out.size))
    clear hy hb2 HB1
    go_wp2_with (go_at_call 44; refine (decay_spec x k _).mono ?_; unfold FPost; rintro e w3 ⟨y3, rfl, hy3, hb3⟩; refine Hid.out ?_)
    refine hid ?_
    have HB3 := hid (HB2.out.trans (hb3.mono HB2.out.size))
    have CS := hid (fun W => same_spec y y3 (told_lt HL.out HY.out) (told_lt HL.out hy3) W)
    rw [same_told HY.out hy3] at CS
    clear hy3 hb3 HB2
    by_cases h0 : 0 ≤ k
    · by_cases h1 : k ≤ 3000
      · have HD : Hid (FS (halvO x k.toNat) y) := hid (by have := HY.out; unfold decO at this; rw [if_pos ⟨h0, h1⟩] at this; exact this)
        have a1 : 0 ≤ k / 3 := by omega
        have a2 : k / 3 ≤ 3000 := by omega
        have a3 : 0 ≤ k - k / 3 := by omega
        have a4 : k - k / 3 ≤ 3000 := by omega
        have HS := hid (siz_le HD.out)
        go_wp2_with (go_at_call 33; refine (CS.out _).mono ?_; rintro e wq ⟨rfl, eq⟩; rw [eq]; clear eq wq; refine Hid.out ?_)
        refine hid ?_
        clear CS
        go_wp2_with (go_at_call 43; refine (decay_impl x (k / 3) _).mono ?_; unfold FPost; rintro e w4 ⟨z1, rfl, hz1, hb4⟩; refine Hid.out ?_)
        refine hid ?_
        have HZ1 : Hid (FS (halvO x (k / 3).toNat) z1) := hid (by have := hz1; unfold decO at this; rw [if_pos ⟨a1, a2⟩] at this; exact this)
        have HB4 := hid (HB3.out.trans (hb4.mono HB3.out.size))
        clear hz1 hb4 HB3
        go_wp2_with (go_at_call 43; refine (decay_impl z1 (k - k / 3) _).mono ?_; unfold FPost; rintro e w5 ⟨z, rfl, hz, hb5⟩; refine Hid.out ?_)
        refine hid ?_
        have HZ : Hid (FS (halvO x k.toNat) z) := hid (by
          have := hz
          unfold decO at this
          rw [if_pos ⟨a3, a4⟩] at this
          have h2 := halv_both _ _ HZ1.out this
          rw [show (k / 3).toNat + (k - k / 3).toNat = k.toNat by omega] at h2
          exact h2)
        have HB5 := hid (HB4.out.trans (hb5.mono HB4.out.size))
        clear hz hb5 HB4
        have hss := same_told HZ.out HD.out
        have hgt := HS.out
        go_wp2_with (first | (go_at_call 38; refine (size_calls _ _).mono ?_; rintro e wq ⟨rfl, eq⟩; rw [eq]; clear eq wq) | (go_at_call 35; refine (same_impl _ _ _).mono ?_; rintro e wq ⟨rfl, eq⟩; rw [eq, hss]; clear eq wq))
        go_ret
        exact ⟨rfl, HB5.out⟩
      · have hyn : nanB y = true := by have := HY.out; unfold decO at this; rw [if_neg (fun k => h1 k.2)] at this; exact this
        have e0 := ord_nan hyn y
        go_wp2_with (go_at_call 33; refine (CS.out _).mono ?_; rintro e wq ⟨rfl, eq⟩; rw [eq]; clear eq wq)
        go_ret
        exact ⟨rfl, HB3.out⟩
    · have hyn : nanB y = true := by have := HY.out; unfold decO at this; rw [if_neg (fun k => h0 k.1)] at this; exact this
      have e0 := ord_nan hyn y
      go_wp2_with (go_at_call 33; refine (CS.out _).mono ?_; rintro e wq ⟨rfl, eq⟩; rw [eq]; clear eq wq)
      go_ret
      exact ⟨rfl, HB3.out⟩
  · have hd : decide ((n : Int) > 1048576) = true := decide_eq_true (by omega)
    go_enter Try.func8, Try.ntmps8
    go_wp2_with (go_at_call 30; refine (big_callsF q n c _).mono ?_; rintro e wq ⟨rfl, eq⟩; rw [eq, hd]; clear eq wq)
    go_ret
    exact ⟨rfl, Below.refl _ _⟩
end Go.Proofs.Ytpecdbgbiecdgaa
