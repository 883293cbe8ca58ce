/- FnSurer, walked: it answers true. -/
import Derived.Test.YtpecdbgbiecdgaaDrawLaw
import Derived.Test.YtpecdbgbiecdgaaQuoPlain
import Derived.Test.YtpecdbgbiecdgaaWithPlain
namespace Go.Proofs.Ytpecdbgbiecdgaa
open Go.RowKit
open Go.Lib (hid)

/-- Near nought or a number, however great. -/
theorem near_big (high : Int) (h0 : 0 ≤ high) (h1 : high ≤ 9223372036854775807) (w : World) (b : Nat) (q : Option Addr) (n c : Nat) (h : Rd w b q n c) :
    Calls Try.prog 96 #[.pointer (some ⟨b, 0, none⟩), .int .i64 0, .int .i64 high] w (Drawn b q n c .i64 (fun _ => True) w) := by
  have HR := hid h
  clear h
  go_enter Try.func96, Try.ntmps96
  go_wp2_with (go_at_call 93; refine (d_below 8 (by omega) _ _ _ _ _ HR.out).mono ?_; rintro e w1 ⟨x, rfl, ⟨hx0, hx1⟩, hr1, hs1⟩; refine Hid.out ?_)
  refine hid ?_
  have HR1 := hid hr1
  have HS1 := hid hs1
  clear hr1 hs1
  by_cases e0 : x = 0
  · subst e0
    go_wp2
    go_ret
    exact ⟨_, rfl, trivial, HR1.out, HS1.out⟩
  · by_cases e1 : x = 1
    · subst e1
      go_wp2
      go_ret
      exact ⟨_, rfl, trivial, HR1.out, HS1.out⟩
    · have b0 : (x == 0) = false := by rw [beq_eq_false_iff_ne]; exact e0
      have b1 : (x == 1) = false := by rw [beq_eq_false_iff_ne]; exact e1
      clear e0 e1
      by_cases hm : high = 9223372036854775807
      · subst hm
        have e1 : wrap64 9223372036854775808 = -9223372036854775808 := by first | rfl | (simp [wrap64, Go.wrap]) | (simp [wrap64]) | (unfold wrap64; split <;> omega)
        have e2 : IntKind.u64.wrap (-9223372036854775808) = 9223372036854775808 := by decide
        go_wp2_with (go_at_call 116; refine (d_word _ _ _ _ _ HR1.out).mono ?_; rintro e w2 ⟨y, rfl, ⟨hy0, hy1⟩, hr2, hs2⟩; refine Hid.out ?_)
        refine hid ?_
        have HR2 := hid hr2
        have HS2 := hid (HS1.out.trans hs2)
        clear hr2 hs2
        go_wp2
        go_ret
        exact ⟨_, rfl, trivial, HR2.out, HS2.out⟩
      · have h2 : high ≤ 9223372036854775806 := by omega
        clear hm
        go_wp2_with (go_at_call 116; refine (d_word _ _ _ _ _ HR1.out).mono ?_; rintro e w2 ⟨y, rfl, ⟨hy0, hy1⟩, hr2, hs2⟩; refine Hid.out ?_)
        refine hid ?_
        have HR2 := hid hr2
        have HS2 := hid (HS1.out.trans hs2)
        clear hr2 hs2
        go_wp2
        go_ret
        exact ⟨_, rfl, trivial, HR2.out, HS2.out⟩

theorem off_big (high : Int) (h0 : 0 ≤ high) (h1 : high ≤ 9223372036854775807) (w : World) (b : Nat) (q : Option Addr) (n c : Nat) (h : Rd w b q n c) :
    Calls Try.prog 92 #[.pointer (some ⟨b, 0, none⟩), .int .i64 0, .int .i64 high] w (Drawn b q n c .i64 (fun _ => True) w) := by
  have HR := hid h
  clear h
  go_enter Try.func92, Try.ntmps92
  go_wp2_with (go_at_call 91; refine (d_once 24 (by omega) (by omega) _ _ _ _ _ HR.out).mono ?_; rintro e w1 ⟨t, rfl, hr1, hs1⟩; refine Hid.out ?_)
  refine hid ?_
  have HR1 := hid hr1
  have HS1 := hid hs1
  clear hr1 hs1
  cases t with
  | true =>
    go_wp2_with (go_at_call 93; refine (d_below 4 (by omega) _ _ _ _ _ (by exact HR1.out.below ((Below.refl _ _).alloc (Nat.le_refl _) _))).mono ?_; rintro e w2 ⟨x, rfl, ⟨hx0, hx1⟩, hr2, hs2⟩; refine Hid.out ?_)
    refine hid ?_
    have hp := pick_cells hs2 HR1.out.here
    have HR2 := hid hr2
    have HS2 := hid ((HS1.out.alloc _).trans hs2)
    have hx4 : x = 0 ∨ x = 1 ∨ x = 2 ∨ x = 3 := by have := hx1 (by omega); omega
    clear hr2 hs2
    have p0 := hp 0 _ rfl
    have p1 := hp 1 _ rfl
    have p2 := hp 2 _ rfl
    have p3 := hp 3 _ rfl
    clear hp hx0 hx1
    rcases hx4 with rfl | rfl | rfl | rfl
    all_goals
      go_wp2
      go_ret
      exact ⟨_, rfl, trivial, HR2.out, HS2.out⟩
  | false =>
    go_wp2_with (go_at_call 96; refine (near_big high h0 h1 _ _ _ _ _ HR1.out).mono ?_; rintro e w2 ⟨y, rfl, _, hr2, hs2⟩; refine Hid.out ?_)
    refine hid ?_
    have HR2 := hid hr2
    have HS2 := hid (HS1.out.trans hs2)
    clear hr2 hs2
    go_wp2
    go_ret
    exact ⟨_, rfl, trivial, HR2.out, HS2.out⟩

set_option maxRecDepth 20000 in
set_option maxHeartbeats 2000000 in
theorem drawn_sure (w : World) (q : Option Addr) (n c : Nat) (hn : n ≤ 1048576) (hq : TBytes w q n) :
    Calls Try.prog 45 #[.slice q n c] w fun e w' => ∃ g a : Int, e = .returned (.tuple #[.int .i64 g, .int .i64 a]) ∧ Below w.heap.size w w' := by
  have HQ := hid hq
  clear hq
  go_enter Try.func45, Try.ntmps45
  go_wp2_with (go_at_call 89; refine (d_open _ q n c hn HQ.out).mono ?_; rintro e w1 ⟨rfl, hr1, hb1⟩; refine Hid.out ?_)
  refine hid ?_
  have HR1 := hid hr1
  have HB1 := hid hb1
  clear hr1 hb1
  go_wp2_with (go_at_call 93; refine (d_below 2 (by omega) _ _ _ _ _ (by exact HR1.out.below ((Below.refl _ _).alloc (Nat.le_refl _) _))).mono ?_; rintro e w3 ⟨u, rfl, ⟨hu0, hu1⟩, hr3, hs3⟩; refine Hid.out ?_)
  refine hid ?_
  have hp := pick_cells hs3 HR1.out.here
  have HR3 := hid hr3
  have HB3 := hid (step_tail (HB1.out.alloc HB1.out.size _) hs3 (Nat.le_refl _))
  have hu2 : u = 0 ∨ u = 1 := by have := hu1 (by omega); omega
  clear hr3 hs3 HB1 HR1
  have p0 := hp 0 _ rfl
  have p1 := hp 1 _ rfl
  clear hp hu0 hu1
  rcases hu2 with rfl | rfl
  all_goals
    go_wp2_with (go_at_call 92; refine (d_off _ _ (by omega) (by omega) (by omega) (by omega) _ _ _ _ _ HR3.out).mono ?_; rintro e w4 ⟨k, rfl, ⟨hk0, hk1⟩, hr4, hs4⟩; refine Hid.out ?_)
    refine hid ?_
    have HR4 := hid hr4
    have HB4 := hid (step_tail HB3.out hs4 (Nat.le_refl _))
    clear hr4 hs4 HB3 HR3 p0 p1
    go_wp2_with (go_at_call 92; refine (off_big _ (by omega) (by omega) _ _ _ _ _ HR4.out).mono ?_; rintro e w5 ⟨j, rfl, _, hr5, hs5⟩; refine Hid.out ?_)
    all_goals
      refine hid ?_
      have HB5 := hid (step_tail HB4.out hs5 (Nat.le_refl _))
      clear hr5 hs5 HB4 HR4
      go_wp2
      exact bodyPost_ret (v := .tuple #[.int .i64 j, .int .i64 k]) (by simp [results, Try.results45, go_sem]) rfl ⟨_, _, rfl, HB5.out⟩

/-- What Sure tells where it tells a number. -/
theorem sure_val {g a : Int} (h : 0 ≤ g ∧ g ≤ a ∧ a ≤ 1000000000) : ∃ r, sureO g a = some r ∧ nanB r = false ∧ fkey r = rung (qr ((g + 1).toNat * 2 ^ 84) (a + 2).toNat) (-85) := by
  obtain ⟨h1, h2, h3⟩ := h
  obtain ⟨r, hr, hn, hs, hg⟩ := quo_rung (a := (g + 1).toNat) (n := (a + 2).toNat) (by omega) (by omega) (by omega) (by omega)
  rw [show (((g + 1).toNat : Nat) : Int) = g + 1 by omega, show (((a + 2).toNat : Nat) : Int) = a + 2 by omega] at hr
  refine ⟨r, ?_, hn, ?_⟩
  · unfold sureO
    rw [if_pos ⟨h1, h2, h3⟩]
    exact hr
  · unfold fkey
    rw [hs, hg]
    rfl

theorem sure_pos {m n : Nat} (hm : 1 ≤ m) (hn : 0 < n) (hn2 : n ≤ 1073741824) : 0 < rung (qr (m * 2 ^ 84) n) (-85) := by
  have h1 : 18014398509481984 ≤ m * 2 ^ 84 / n := by
    rw [Nat.le_div_iff_mul_le hn]
    have e : (2 : Nat) ^ 84 = 18014398509481984 * 1073741824 := by decide
    rw [e]
    have h2 : 18014398509481984 * n ≤ 18014398509481984 * 1073741824 := Nat.mul_le_mul_left _ hn2
    exact Nat.le_trans h2 (Nat.le_mul_of_pos_left _ hm)
  have h2 : 36028797018963968 ≤ qr (m * 2 ^ 84) n := by unfold qr; omega
  have h3 := rung_mono h2 (-85)
  have h4 : 0 < rung 36028797018963968 (-85) := by decide
  omega

theorem sure_tail {x y z t n : Nat} (h : z + t ≤ x) (h2 : y ≤ t) (h3 : 0 < n) : z < x - y + n := by omega

theorem sure_one {m n : Nat} (hm : m + 1 ≤ n) (hn2 : n ≤ 1073741824) : rung (qr (m * 2 ^ 84) n) (-85) < 4607182418800017408 := by
  have hn : 0 < n := by omega
  have h1 : m * 2 ^ 84 / n ≤ 2 ^ 84 - 2 ^ 54 := by
    apply Nat.le_of_lt_succ
    rw [Nat.div_lt_iff_lt_mul hn]
    have k1 : (m + 1) * 2 ^ 84 ≤ n * 2 ^ 84 := Nat.mul_le_mul_right _ hm
    have k2 : n * 2 ^ 54 ≤ 1073741824 * 2 ^ 54 := Nat.mul_le_mul_right _ hn2
    have k3 : (1073741824 : Nat) * 2 ^ 54 = 2 ^ 84 := by decide
    rw [k3] at k2
    rw [Nat.add_mul, Nat.one_mul] at k1
    have k4 : (2 ^ 84 - 2 ^ 54 : Nat).succ * n = n * 2 ^ 84 - n * 2 ^ 54 + n := by
      rw [Nat.succ_eq_add_one, Nat.add_mul, Nat.one_mul, Nat.mul_comm (2 ^ 84 - 2 ^ 54) n, Nat.mul_sub]
    rw [k4]
    exact sure_tail k1 k2 hn
  have hs : (m * 2 ^ 84 % n != 0).toNat ≤ 1 := by cases (m * 2 ^ 84 % n != 0) <;> decide
  have h2 : qr (m * 2 ^ 84) n ≤ 2 * (2 ^ 84 - 2 ^ 54) + 1 := by
    unfold qr
    exact Nat.add_le_add (Nat.mul_le_mul_left 2 h1) hs
  have h3 := rung_mono h2 (-85)
  have h4 : rung (2 * (2 ^ 84 - 2 ^ 54) + 1) (-85) < 4607182418800017408 := by decide
  omega

set_option maxRecDepth 20000 in
set_option maxHeartbeats 4000000 in
theorem law_fnsurer (w : World) (q : Option Addr) (n c : Nat) (hq : TBytes w q n) :
    Calls Try.prog 9 #[.slice q n c] w fun e w' => e = .returned (.bool true) ∧ Below w.heap.size w w' := by
  have HQ := hid hq
  clear hq
  by_cases hn : n ≤ 1048576
  · have hd : decide ((n : Int) > 1048576) = false := decide_eq_false (by omega)
    have CB := hid (fun W => big_callsF q n c W)
    rw [hd] at CB
    clear hd
    go_enter Try.func9, Try.ntmps9
    go_wp2_with (go_at_call 30; refine (CB.out _).mono ?_; rintro e wq ⟨rfl, eq⟩; rw [eq]; clear eq wq; refine Hid.out ?_)
    refine hid ?_
    go_wp2_with (go_at_call 45; refine (drawn_sure _ q n c hn HQ.out).mono ?_; rintro e w1 ⟨g, a, rfl, hb1⟩; refine Hid.out ?_)
    refine hid ?_
    have HB1 := hid hb1
    clear hb1 CB HQ
    have HL : Hid (∀ r, sureO g a = some r → r < 18446744073709551616) := hid (fun r h => by
      unfold sureO at h
      split at h
      · have h : floatBits .quo .f64 _ _ = some r := h
        have := floatBits_wf h
        simp [Lit.wf] at this
        exact this
      · cases h)
    go_wp2_with (go_at_call 46; refine (sure_impl g a _).mono ?_; unfold FPost; rintro e w2 ⟨y, rfl, hy, hb2⟩; refine Hid.out ?_)
    refine hid ?_
    have HY := hid hy
    have HB2 := hid (HB1.out.trans (hb2.mono HB1.out.size))
    clear hy hb2 HB1
    go_wp2_with (go_at_call 47; refine (sure_spec g a _).mono ?_; unfold FPost; rintro e w3 ⟨y3, rfl, hy3, hb3⟩; refine Hid.out ?_)
    refine hid ?_
    have HB3 := hid (HB2.out.trans (hb3.mono HB2.out.size))
    have CS := hid (fun W => same_spec y y3 (told_lt HL.out HY.out) (told_lt HL.out hy3) W)
    rw [same_told HY.out hy3] at CS
    clear hy3 hb3 HB2
    by_cases hs : 0 ≤ g ∧ g ≤ a ∧ a ≤ 1000000000
    · obtain ⟨r, hr, hrn, hrk⟩ := sure_val hs
      have hyr : y = r := by have := HY.out; rw [hr] at this; exact this
      subst hyr
      have hpos := sure_pos (m := (g + 1).toNat) (n := (a + 2).toNat) (by omega) (by omega) (by omega)
      have hone := sure_one (m := (g + 1).toNat) (n := (a + 2).toNat) (by omega) (by omega)
      have e0 : (FloatKind.f64.format.order y y != some .eq) = false := by rw [ord_self hrn]; rfl
      have e1 : (FloatKind.f64.format.order y 0 == some .gt) = true := by
        have := (gt_key hrn (show nanB 0 = false by decide)).2 (by rw [hrk, show fkey 0 = 0 by decide]; omega)
        rw [this]
        rfl
      have e2 : (FloatKind.f64.format.order y 4607182418800017408 == some .lt) = true := by
        have := (lt_key hrn (show nanB 4607182418800017408 = false by decide)).2 (by rw [hrk, show fkey 4607182418800017408 = 4607182418800017408 by decide]; omega)
        rw [this]
        rfl
      by_cases hga : g = a
      · have e3 : (g == a) = true := by rw [hga]; simp
        clear hrk hpos hone
        go_wp2_with (go_at_call 33; refine (CS.out _).mono ?_; rintro e wq ⟨rfl, eq⟩; rw [eq]; clear eq wq)
        go_ret
        exact ⟨rfl, HB3.out⟩
      · have e3 : (g == a) = false := by simpa using hga
        obtain ⟨r2, hr2, hrn2, hrk2⟩ := sure_val (g := g + 1) (a := a) ⟨by omega, by omega, by omega⟩
        have hle : fkey y ≤ fkey r2 := by
          rw [hrk, hrk2]
          have := rung_mono (qr_mono (a + 2).toNat (Nat.mul_le_mul_right (2 ^ 84) (show (g + 1).toNat ≤ (g + 1 + 1).toNat by omega))) (-85)
          omega
        have e4 := ge_key hrn2 hrn
        rw [decide_eq_true hle] at e4
        unfold geB at e4
        have CI := hid (fun W => sure_impl (g + 1) a W)
        rw [hr2] at CI
        obtain ⟨s0, s1, s2⟩ := hs
        have s3 : g ≤ 1000000000 := by omega
        clear hrk hrk2 hpos hone hle hr hr2 hga
        go_wp2_with (first | (go_at_call 33; refine (CS.out _).mono ?_; rintro e wq ⟨rfl, eq⟩; rw [eq]; clear eq wq) | (go_at_call 46; refine (CI.out _).mono ?_; unfold FPost; rintro e w5 ⟨y5, rfl, hy5, hb5⟩; obtain rfl : y5 = r2 := hy5; have HB5 := hid (HB3.out.trans (hb5.mono HB3.out.size)); clear hb5))
        go_ret
        exact ⟨rfl, HB5.out⟩
    · have hyn : nanB y = true := by have := HY.out; unfold sureO at this; rw [if_neg hs] at this; exact this
      have e0 : (FloatKind.f64.format.order y y != some .eq) = true := by rw [ord_nan hyn y]; rfl
      clear hs
      go_wp2_with (go_at_call 33; refine (CS.out _).mono ?_; rintro e wq ⟨rfl, eq⟩; rw [eq]; clear eq wq)
      go_ret
      exact ⟨rfl, HB3.out⟩
  · have hd : decide ((n : Int) > 1048576) = true := decide_eq_true (by omega)
    go_enter Try.func9, Try.ntmps9
    go_wp2_with (go_at_call 30; refine (big_callsF q n c _).mono ?_; rintro e wq ⟨rfl, eq⟩; rw [eq, hd]; clear eq wq)
    go_ret
    exact ⟨rfl, Below.refl _ _⟩
end Go.Proofs.Ytpecdbgbiecdgaa
