/- TickAt, the specification's and the program's; its law. -/
import Derived.Test.YtpecdbgbiecdgaaTickPlain
namespace Go.Proofs.Ytpecdbgbiecdgaa
open Go.RowKit
open Go.Lib (hid)

attribute [local go_sem] run_fadd run_fsub run_fmul run_fquo run_store_float

/-- What TickAt answers. -/
def TickPost (x y shown : Nat) (w : World) (e : Ending) (w' : World) : Prop := ∃ k : Int, e = .returned (.int .i64 k) ∧ IsTick x y shown k ∧ Below w.heap.size w w'

theorem most_eq {x y shown r : Nat} {t : Int} (h : FS (shownO x y t) r) : (FloatKind.f64.format.order r shown == some .lt || FloatKind.f64.format.order r shown == some .eq) = atMost x y shown t := by
  unfold atMost
  rw [← FS.ord h (FS.some shown)]

/-- The closure that TickAt makes. -/
theorem show_calls (x y : Nat) (hx : x < 18446744073709551616) (hy : y < 18446744073709551616) (b : Nat) (t : Int) (w : World) (h0 : w.cell? ⟨b, 0, none⟩ = some (.float .f64 x)) (h1 : w.cell? ⟨b, 1, none⟩ = some (.float .f64 y)) :
    Calls Try.prog 98 #[.int .i64 t, .pointer (some ⟨b, 0, none⟩)] w (FPost (shownO x y t) w) := by
  have CI := hid (fun W => shown_impl x y hx hy t W)
  unfold FPost at CI ⊢
  go_enter Try.func98, Try.ntmps98
  go_wp2_with (go_at_call 51; refine (CI.out _).mono ?_; rintro e w2 ⟨r, rfl, hr, hb⟩; refine Hid.out ?_)
  refine hid ?_
  have HR := hid hr
  have HB := hid hb
  clear hr hb
  go_wp2
  go_ret
  exact ⟨_, rfl, HR.out, HB.out⟩

set_option maxRecDepth 20000 in
set_option maxHeartbeats 2000000 in
theorem last_calls (x y : Nat) (hx : x < 18446744073709551616) (hy : y < 18446744073709551616) (shown b : Nat) (w : World) (hb : b < w.heap.size) (h0 : w.cell? ⟨b, 0, none⟩ = some (.float .f64 x)) (h1 : w.cell? ⟨b, 1, none⟩ = some (.float .f64 y)) :
    Calls Try.prog 97 #[.int .i64 1000000, .func (.func 98) #[] #[.pointer (some ⟨b, 0, none⟩)], .float .f64 shown] w (TickPost x y shown w) := by
  unfold TickPost
  have HC := hid (fun t W (hw : Below w.heap.size w W) => show_calls x y hx hy b t W ((hw.cell (p := ⟨b, 0, none⟩) hb).trans h0) ((hw.cell (p := ⟨b, 1, none⟩) hb).trans h1))
  unfold FPost at HC
  clear h0 h1
  go_enter Try.func97, Try.ntmps97
  go_wp2
  go_loopw [7, 8] (fun lv hv wr => ∃ lo hi : Int, -1 ≤ lo ∧ lo ≤ hi ∧ hi ≤ 1000000 ∧ lv = .int .i64 lo ∧ hv = .int .i64 hi ∧ Hid (lo = -1 ∨ atMost x y shown lo = true) ∧ Hid (hi = 1000000 ∨ atMost x y shown (hi + 1) = false) ∧ Hid (Below w.heap.size w wr)) (fun lv hv _ => (RowKit.intOf hv - RowKit.intOf lv).toNat)
  case atStart => exact ⟨-1, 1000000, by omega, by omega, by omega, rfl, rfl, hid (.inl rfl), hid (.inl rfl), hid (Below.refl _ _)⟩
  case round =>
    obtain ⟨lo, hi, h1, h2, h3, rfl, rfl, HL, HH, HB⟩ := hrel
    by_cases hlt : lo < hi
    · have a1 : 0 ≤ lo + hi + 1 := by omega
      have a2 : lo + hi + 1 ≤ 4000000 := by omega
      have a3 : lo < (lo + hi + 1) / 2 := by omega
      have a4 : (lo + hi + 1) / 2 ≤ hi := by omega
      have CC := hid (fun W (hw : Below w.heap.size w W) => HC.out ((lo + hi + 1) / 2) W hw)
      cases hm : atMost x y shown ((lo + hi + 1) / 2) with
      | true =>
        have HM := hid hm
        have ME := hid (fun r h => most_eq (x := x) (y := y) (shown := shown) (r := r) (t := (lo + hi + 1) / 2) h)
        rw [hm] at ME
        clear hm
        go_wp2_with (go_at_call 98; refine (CC.out _ HB.out).mono ?_; rintro e w2 ⟨r, rfl, hr, hb2⟩; have hq := ME.out _ hr; have HB2 := hid (HB.out.trans (hb2.mono HB.out.size)); clear hr hb2)
        go_roundw
        case rel => exact ⟨(lo + hi + 1) / 2, hi, by omega, a4, h3, by go_num, rfl, hid (.inr HM.out), HH, HB2⟩
        case measure => simp [RowKit.intOf]; omega
      | false =>
        have HM := hid hm
        have ME := hid (fun r h => most_eq (x := x) (y := y) (shown := shown) (r := r) (t := (lo + hi + 1) / 2) h)
        rw [hm] at ME
        clear hm
        go_wp2_with (go_at_call 98; refine (CC.out _ HB.out).mono ?_; rintro e w2 ⟨r, rfl, hr, hb2⟩; have hq := ME.out _ hr; have HB2 := hid (HB.out.trans (hb2.mono HB.out.size)); clear hr hb2)
        go_roundw
        case rel => exact ⟨lo, (lo + hi + 1) / 2 - 1, h1, by omega, by omega, rfl, by go_num, HL, hid (.inr (by rw [Int.sub_add_cancel]; exact HM.out)), HB2⟩
        case measure => simp [RowKit.intOf]; omega
    · have he : lo = hi := by omega
      subst he
      go_wp2
      go_ret
      exact ⟨_, rfl, ⟨h1, h3, HL.out, HH.out⟩, HB.out⟩

set_option maxHeartbeats 1000000 in
theorem tickAt_impl (x y : Nat) (hx : x < 18446744073709551616) (hy : y < 18446744073709551616) (shown : Nat) (w : World) : Calls Try.prog 49 #[.agg #[.float .f64 x, .float .f64 y], .float .f64 shown] w (TickPost x y shown w) := by
  unfold TickPost
  have CL := hid (fun W b hb h0 h1 => last_calls x y hx hy shown b W hb h0 h1)
  unfold TickPost at CL
  have k00 := dcell w _ x y 35 (Below.refl _ _)
  obtain ⟨k0, k1⟩ := k00
  have K0 := hid k0
  have K1 := hid k1
  clear k0 k1
  go_enter Try.func49, Try.ntmps49
  go_wp2_with (go_at_call 97; refine (CL.out _ _ (by simp) K0.out K1.out).mono ?_; rintro e w2 ⟨k, rfl, hk, hb⟩; refine Hid.out ?_)
  refine hid ?_
  have HK := hid hk
  have HB := hid (dbel hb)
  clear hk hb
  go_wp2
  go_ret
  exact ⟨_, rfl, HK.out, HB.out⟩

set_option maxRecDepth 20000 in
set_option maxHeartbeats 4000000 in
theorem tickAt_spec (x y : Nat) (shown : Nat) (w : World) : Calls Try.prog 50 #[.agg #[.float .f64 x, .float .f64 y], .float .f64 shown] w (TickPost x y shown w) := by
  unfold TickPost
  have CR := hid (fun W => right_spec x y W)
  have CS := hid (fun t W => shown_spec x y t W)
  unfold FPost at CS
  obtain ⟨W0, hW0⟩ : ∃ W, W = w.alloc (.cells #[.float .f64 x, .float .f64 y] 35) := ⟨_, rfl⟩
  have HC : Hid (∀ W, Below W0.heap.size W0 W → W.cell? ⟨w.heap.size, 0, none⟩ = some (.float .f64 x) ∧ W.cell? ⟨w.heap.size, 1, none⟩ = some (.float .f64 y)) := hid (by rw [hW0]; exact fun W h => dcell w W x y _ h)
  have HB0 : Hid (Below w.heap.size w W0) := hid (by rw [hW0]; exact (Below.refl _ _).alloc (Nat.le_refl _) _)
  have HW := hid hW0
  obtain ⟨k0, k1⟩ := HC.out W0 (Below.refl _ _)
  clear hW0
  cases hd : drB x y with
  | false =>
    rw [hd] at CR
    have HN : Hid (IsTick x y shown (-1)) := hid ⟨by omega, by omega, .inl rfl, .inr (by
      have : shownO x y ((-1 : Int) + 1) = none := by unfold shownO; rw [if_neg (by rw [hd]; simp)]
      unfold atMost
      rw [this]
      rfl)⟩
    clear hd
    go_enter Try.func50, Try.ntmps50
    go_wp2_with (go_at_call 76; rw [← HW.out]; refine (CR.out _).mono ?_; rintro e w2 ⟨rfl, hb2⟩; refine Hid.out ?_)
    refine hid ?_
    have HB2 := hid (HB0.out.trans (hb2.mono HB0.out.size))
    clear hb2 k0 k1
    go_wp2
    go_ret
    exact ⟨_, rfl, HN.out, HB2.out⟩
  | true =>
    rw [hd] at CR
    clear hd
    go_enter Try.func50, Try.ntmps50
    go_wp2_with (go_at_call 76; rw [← HW.out]; refine (CR.out _).mono ?_; rintro e w2 ⟨rfl, hb2⟩; refine Hid.out ?_)
    refine hid ?_
    have HB2 := hid hb2
    clear hb2 k0 k1
    obtain ⟨k0, k1⟩ := HC.out w2 HB2.out
    cases hm : atMost x y shown 0 with
    | false =>
      have HN : Hid (IsTick x y shown (-1)) := hid ⟨by omega, by omega, .inl rfl, .inr hm⟩
      have ME := hid (fun r h => most_eq (x := x) (y := y) (shown := shown) (r := r) (t := 0) h)
      rw [hm] at ME
      clear hm
      go_wp2_with (go_at_call 95; refine (CS.out 0 _).mono ?_; rintro e w3 ⟨r, rfl, hr, hb3⟩; have hq := ME.out _ hr; have HB3 := hid (dtr HB2.out hb3); clear hr hb3)
      go_ret
      exact ⟨_, rfl, HN.out, HB0.out.trans (HB3.out.mono HB0.out.size)⟩
    | true =>
      have HM := hid hm
      have ME := hid (fun r h => most_eq (x := x) (y := y) (shown := shown) (r := r) (t := 0) h)
      rw [hm] at ME
      clear hm
      go_wp2_with (go_at_call 95; refine (CS.out 0 _).mono ?_; rintro e w3 ⟨r, rfl, hr, hb3⟩; have hq := ME.out _ hr; have HB3 := hid (dtr HB2.out hb3); clear hr hb3)
      clear k0 k1 hq ME
      go_loopw [5, 6] (fun lv hv wr => ∃ lo hi : Int, 0 ≤ lo ∧ lo < hi ∧ hi ≤ 1000001 ∧ lv = .int .i64 lo ∧ hv = .int .i64 hi ∧ Hid (atMost x y shown lo = true) ∧ Hid (hi = 1000001 ∨ atMost x y shown hi = false) ∧ Hid (Below W0.heap.size W0 wr)) (fun lv hv _ => (RowKit.intOf hv - RowKit.intOf lv).toNat)
      case atStart => exact ⟨0, 1000001, by omega, by omega, by omega, rfl, rfl, HM, hid (.inl rfl), HB3⟩
      case round =>
        obtain ⟨lo, hi, h1, h2, h3, rfl, rfl, HL, HH, HB⟩ := hrel
        by_cases hlt : 1 < hi - lo
        · have a1 : 0 ≤ lo + hi := by omega
          have a2 : lo + hi ≤ 4000000 := by omega
          have a3 : lo < (lo + hi) / 2 := by omega
          have a4 : (lo + hi) / 2 < hi := by omega
          have CC := hid (fun W => CS.out ((lo + hi) / 2) W)
          obtain ⟨k0, k1⟩ := HC.out wr HB.out
          cases hm : atMost x y shown ((lo + hi) / 2) with
          | true =>
            have HM2 := hid hm
            have ME := hid (fun r h => most_eq (x := x) (y := y) (shown := shown) (r := r) (t := (lo + hi) / 2) h)
            rw [hm] at ME
            clear hm
            go_wp2_with (go_at_call 95; refine (CC.out _).mono ?_; rintro e w4 ⟨r2, rfl, hr2, hb4⟩; have hq := ME.out _ hr2; have HB4 := hid (dtr HB.out hb4); clear hr2 hb4)
            go_roundw
            case rel => exact ⟨(lo + hi) / 2, hi, by omega, a4, h3, by go_num, rfl, HM2, HH, HB4⟩
            case measure => simp [RowKit.intOf]; omega
          | false =>
            have HM2 := hid hm
            have ME := hid (fun r h => most_eq (x := x) (y := y) (shown := shown) (r := r) (t := (lo + hi) / 2) h)
            rw [hm] at ME
            clear hm
            go_wp2_with (go_at_call 95; refine (CC.out _).mono ?_; rintro e w4 ⟨r2, rfl, hr2, hb4⟩; have hq := ME.out _ hr2; have HB4 := hid (dtr HB.out hb4); clear hr2 hb4)
            go_roundw
            case rel => exact ⟨lo, (lo + hi) / 2, h1, a3, by omega, rfl, by go_num, HL, hid (.inr HM2.out), HB4⟩
            case measure => simp [RowKit.intOf]; omega
        · have he : hi = lo + 1 := by omega
          subst he
          go_wp2
          go_ret
          exact ⟨_, rfl, ⟨by omega, by omega, .inr HL.out, HH.out.imp (fun h => by omega) id⟩, HB0.out.trans (HB.out.mono HB0.out.size)⟩
end Go.Proofs.Ytpecdbgbiecdgaa
