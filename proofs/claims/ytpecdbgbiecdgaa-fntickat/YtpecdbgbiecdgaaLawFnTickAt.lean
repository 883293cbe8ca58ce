/- FnTickAt, walked: it answers true. -/
import Derived.Test.YtpecdbgbiecdgaaDrawTick
import Derived.Test.YtpecdbgbiecdgaaTickBoth
namespace Go.Proofs.Ytpecdbgbiecdgaa
open Go.RowKit
open Go.Lib (hid)

attribute [local go_sem] run_store_float

/-- What stands behind the last tick shows more. -/
theorem tick_more {x y shown : Nat} {k : Int} (h0 : 0 ≤ k) (h1 : k < 1000000) (hk : atMost x y shown k = true) (hn : atMost x y shown (k + 1) = false) : ∃ r, shownO x y (k + 1) = some r ∧ (FloatKind.f64.format.order r shown == some .gt) = true := by
  obtain ⟨a, rfl⟩ := Int.eq_ofNat_of_zero_le h0
  cases hd : drB x y with
  | false =>
    have : shownO x y (a : Int) = none := by unfold shownO; rw [if_neg (by rw [hd]; simp)]
    unfold atMost at hk
    rw [this] at hk
    simp [ford] at hk
  | true =>
    obtain ⟨p, r, hp, hr, np, nr, hle⟩ := shown_rises hd (show a ≤ a + 1 by omega) (by omega)
    have e : ((a + 1 : Nat) : Int) = (a : Int) + 1 := by omega
    rw [e] at hr
    refine ⟨r, hr, ?_⟩
    unfold atMost at hk hn
    rw [hp] at hk
    rw [hr] at hn
    have hk : (FloatKind.f64.format.order p shown == some .lt || FloatKind.f64.format.order p shown == some .eq) = true := hk
    have hn : (FloatKind.f64.format.order r shown == some .lt || FloatKind.f64.format.order r shown == some .eq) = false := hn
    cases hs : nanB shown with
    | true => rw [ord_nan' hs] at hk; simp at hk
    | false =>
      rw [f64_format, order_key nr hs] at hn ⊢
      rcases Int.lt_trichotomy (fkey r) (fkey shown) with g | g | g
      · rw [cmp_lt g] at hn; simp at hn
      · rw [cmp_eq g] at hn; simp at hn
      · rw [cmp_gt g]; rfl

set_option maxRecDepth 20000 in
set_option maxHeartbeats 4000000 in
theorem law_fntickat (w : World) (q : Option Addr) (n c : Nat) (hq : TBytes w q n) :
    Calls Try.prog 10 #[.slice q n c] w fun e w' => e = .returned (.bool true) ∧ Below w.heap.size w w' := by
  have HQ := hid hq
  clear hq
  by_cases hn : n ≤ 1048576
  · have hd : decide ((n : Int) > 1048576) = false := decide_eq_false (by omega)
    have CB := hid (fun W => big_callsF q n c W)
    rw [hd] at CB
    clear hd
    go_enter Try.func10, Try.ntmps10
    go_wp2_with (go_at_call 30; refine (CB.out _).mono ?_; rintro e wq ⟨rfl, eq⟩; rw [eq]; clear eq wq; refine Hid.out ?_)
    refine hid ?_
    go_wp2_with (go_at_call 48; refine (drawn_tickat _ q n c hn HQ.out).mono ?_; rintro e w1 ⟨x, y, shown, rfl, hx, hy, hb1⟩; refine Hid.out ?_)
    refine hid ?_
    have HB1 := hid hb1
    have HX := hid hx
    have HY := hid hy
    clear hb1 hx hy CB HQ
    obtain ⟨W0, hW0⟩ : ∃ W, W = w1.alloc (.cells #[.float .f64 x, .float .f64 y] 35) := ⟨_, rfl⟩
    have HC : Hid (∀ W, Below W0.heap.size W0 W → W.cell? ⟨w1.heap.size, 0, none⟩ = some (.float .f64 x) ∧ W.cell? ⟨w1.heap.size, 1, none⟩ = some (.float .f64 y)) := hid (by rw [hW0]; exact fun W h => dcell w1 W x y _ h)
    have HB0 : Hid (Below w.heap.size w W0) := hid (by rw [hW0]; exact HB1.out.alloc HB1.out.size _)
    have HW := hid hW0
    obtain ⟨k0, k1⟩ := HC.out W0 (Below.refl _ _)
    clear hW0
    go_wp2_with (go_at_call 49; rw [← HW.out]; refine (tickAt_impl x y HX.out HY.out shown _).mono ?_; unfold TickPost; rintro e w2 ⟨k, rfl, hk, hb2⟩; refine Hid.out ?_)
    refine hid ?_
    have HB2 := hid hb2
    have HK := hid hk
    clear hb2 hk k0 k1
    obtain ⟨k0, k1⟩ := HC.out w2 HB2.out
    go_wp2_with (go_at_call 50; refine (tickAt_spec x y shown _).mono ?_; unfold TickPost; rintro e w3 ⟨j, rfl, hj, hb3⟩; refine Hid.out ?_)
    refine hid ?_
    have HB3 := hid (dtr HB2.out hb3)
    obtain rfl : k = j := tick_one HK.out hj
    clear hb3 hj k0 k1 HB2
    obtain ⟨h1, h2, h3, h4⟩ := HK.out
    obtain ⟨k0, k1⟩ := HC.out w3 HB3.out
    have CS := hid (fun t W => shown_impl x y HX.out HY.out t W)
    unfold FPost at CS
    by_cases hneg : k < 0
    · have hk1 : k = -1 := by omega
      subst hk1
      have h0 : atMost x y shown 0 = false := by
        rcases h4 with h | h
        · omega
        · exact h
      have ME := hid (fun r h => most_eq (x := x) (y := y) (shown := shown) (r := r) (t := 0) h)
      rw [h0] at ME
      clear h0 h3 h4 HK
      go_wp2_with (go_at_call 51; refine (CS.out 0 _).mono ?_; rintro e w4 ⟨r, rfl, hr, hb4⟩; refine Hid.out ?_)
      refine hid ?_
      have hm := ME.out _ hr
      have HB4 := hid (dtr HB3.out hb4)
      clear hb4 hr k0 k1
      cases hrn : nanB r with
      | true =>
        have e1 : (FloatKind.f64.format.order r r != some .eq) = true := by rw [ord_nan hrn r]; rfl
        go_wp2
        go_ret
        exact ⟨rfl, HB0.out.trans (HB4.out.mono HB0.out.size)⟩
      | false =>
        have e1 : (FloatKind.f64.format.order r r != some .eq) = false := by rw [ord_self hrn]; rfl
        go_wp2
        go_ret
        exact ⟨rfl, HB0.out.trans (HB4.out.mono HB0.out.size)⟩
    · have hk0 : 0 ≤ k := by omega
      have hmk : atMost x y shown k = true := by
        rcases h3 with h | h
        · omega
        · exact h
      have ME := hid (fun r h => most_eq (x := x) (y := y) (shown := shown) (r := r) (t := k) h)
      rw [hmk] at ME
      by_cases hlast : k = 1000000
      · subst hlast
        clear h3 h4 HK hmk
        go_wp2_with (go_at_call 51; refine (CS.out _ _).mono ?_; rintro e w4 ⟨r, rfl, hr, hb4⟩; have hm := ME.out _ hr; have HB4 := hid (dtr HB3.out hb4); clear hb4 hr)
        go_ret
        exact ⟨rfl, HB0.out.trans (HB4.out.mono HB0.out.size)⟩
      · have hn1 : atMost x y shown (k + 1) = false := by
          rcases h4 with h | h
          · exact absurd h hlast
          · exact h
        have hlt : k < 1000000 := by omega
        obtain ⟨r0, hr0, hgt⟩ := tick_more hk0 hlt hmk hn1
        have CS2 := hid (fun W => CS.out (k + 1) W)
        rw [hr0] at CS2
        have CS1 := hid (fun W => CS.out k W)
        have hne : (k == 1000000) = false := by simpa using hlast
        clear h3 h4 HK hmk hn1 hr0 hlast CS
        go_wp2_with (go_at_call 51; refine (CS1.out _).mono ?_; rintro e w4 ⟨r, rfl, hr, hb4⟩; refine Hid.out ?_)
        refine hid ?_
        have hm := ME.out _ hr
        have HB4 := hid (dtr HB3.out hb4)
        clear hb4 hr k0 k1
        obtain ⟨k0, k1⟩ := HC.out w4 HB4.out
        go_wp2_with (go_at_call 51; refine (CS2.out _).mono ?_; rintro e w5 ⟨r5, rfl, hr5, hb5⟩; obtain rfl : r5 = r0 := hr5; have HB5 := hid (dtr HB4.out hb5); clear hb5)
        go_ret
        exact ⟨rfl, HB0.out.trans (HB5.out.mono HB0.out.size)⟩
  · have hd : decide ((n : Int) > 1048576) = true := decide_eq_true (by omega)
    go_enter Try.func10, Try.ntmps10
    go_wp2_with (go_at_call 30; refine (big_callsF q n c _).mono ?_; rintro e wq ⟨rfl, eq⟩; rw [eq, hd]; clear eq wq)
    go_ret
    exact ⟨rfl, Below.refl _ _⟩
end Go.Proofs.Ytpecdbgbiecdgaa
