/- Clocks: right ones, what they show; the specification's and the program's; the laws' copy of one. -/
import Derived.Test.YthpnlhbfginkjaaFloatTwo
import Derived.Test.YthpnlhbfginkjaaFloatNan
import Derived.Deep.QuietTactic
import Derived.BigQuiet
namespace Go.Proofs.Ythpnlhbfginkjaa
open Go.RowKit
open Go.Lib (hid)

attribute [local go_sem] run_fadd run_fsub run_fmul run_fquo run_store_float

/-- Is a clock right? -/
def drB (x y : Nat) : Bool := finB x && finB y && (FloatKind.f64.format.order x 0 == some .gt)

theorem dcell (w W : World) (x y : Nat) (t : TypeId) (h : Below (w.alloc (.cells #[.float .f64 x, .float .f64 y] t)).heap.size (w.alloc (.cells #[.float .f64 x, .float .f64 y] t)) W) : W.cell? ⟨w.heap.size, 0, none⟩ = some (.float .f64 x) ∧ W.cell? ⟨w.heap.size, 1, none⟩ = some (.float .f64 y) :=
  ⟨(h.cell (p := ⟨w.heap.size, 0, none⟩) (by simp)).trans ((cell_of_row _ _ _ _ _ _ (heap_alloc_new w _)).trans rfl), (h.cell (p := ⟨w.heap.size, 1, none⟩) (by simp)).trans ((cell_of_row _ _ _ _ _ _ (heap_alloc_new w _)).trans rfl)⟩

theorem dbel {w W : World} {o : Obj} (h : Below (w.alloc o).heap.size (w.alloc o) W) : Below w.heap.size w W := ((Below.refl _ _).alloc (Nat.le_refl _) o).trans (h.mono (by simp))

theorem dtr {u v w : World} (h : Below u.heap.size u v) (k : Below v.heap.size v w) : Below u.heap.size u w := h.trans (k.mono h.size)

theorem drB_eq (x y : Nat) : drB x y = (finB x && finB y && (FloatKind.f64.format.order x 0 == some .gt)) := rfl

set_option maxHeartbeats 1000000 in
theorem right_spec (x y : Nat) (w : World) : Calls Try.prog 42 #[.agg #[.float .f64 x, .float .f64 y]] w fun e w' => e = .returned (.bool (drB x y)) ∧ Below w.heap.size w w' := by
  rw [drB_eq]
  have C1 := hid (fun W => known_spec x W)
  have C2 := hid (fun W => known_spec y W)
  have HL : ∀ o : Obj, Below w.heap.size w (w.alloc o) := fun o => (Below.refl _ _).alloc (Nat.le_refl _) o
  cases h1 : finB x with
  | false =>
    rw [h1] at C1
    go_enter Try.func42, Try.ntmps42
    go_wp2_with (go_at_call 34; refine (C1.out _).mono ?_; rintro e w2 ⟨rfl, hb2⟩; have K2 := dcell _ _ _ _ _ hb2; have HB2 := hid hb2; clear hb2; obtain ⟨p0, p1⟩ := K2)
    go_ret
    exact ⟨rfl, dbel HB2.out⟩
  | true =>
    rw [h1] at C1
    cases h2 : finB y with
    | false =>
      rw [h2] at C2
      go_enter Try.func42, Try.ntmps42
      go_wp2_with (first | (go_at_call_of 34 (Value.float FloatKind.f64 x); refine (C1.out _).mono ?_; rintro e w2 ⟨rfl, hb2⟩; have K2 := dcell _ _ _ _ _ hb2; have HB2 := hid hb2; clear hb2; obtain ⟨p0, p1⟩ := K2) | (go_at_call_of 34 (Value.float FloatKind.f64 y); refine (C2.out _).mono ?_; rintro e w3 ⟨rfl, hb3⟩; have K3 := dcell _ _ _ _ _ (dtr HB2.out hb3); have HB3 := hid (dtr HB2.out hb3); clear hb3; obtain ⟨q0, q1⟩ := K3))
      go_ret
      exact ⟨rfl, dbel HB3.out⟩
    | true =>
      rw [h2] at C2
      go_enter Try.func42, Try.ntmps42
      go_wp2_with (first | (go_at_call_of 34 (Value.float FloatKind.f64 x); refine (C1.out _).mono ?_; rintro e w2 ⟨rfl, hb2⟩; have K2 := dcell _ _ _ _ _ hb2; have HB2 := hid hb2; clear hb2; obtain ⟨p0, p1⟩ := K2) | (go_at_call_of 34 (Value.float FloatKind.f64 y); refine (C2.out _).mono ?_; rintro e w3 ⟨rfl, hb3⟩; have K3 := dcell _ _ _ _ _ (dtr HB2.out hb3); have HB3 := hid (dtr HB2.out hb3); clear hb3; obtain ⟨q0, q1⟩ := K3))
      go_ret
      exact ⟨by simp, dbel HB3.out⟩

set_option maxHeartbeats 1000000 in
theorem right_impl (x y : Nat) (hx : x < 18446744073709551616) (hy : y < 18446744073709551616) (w : World) : Calls Try.prog 45 #[.agg #[.float .f64 x, .float .f64 y]] w fun e w' => e = .returned (.bool (drB x y)) ∧ Below w.heap.size w w' := by
  rw [drB_eq]
  have C1 := hid (fun W => known_impl x hx W)
  have C2 := hid (fun W => known_impl y hy W)
  have HL : ∀ o : Obj, Below w.heap.size w (w.alloc o) := fun o => (Below.refl _ _).alloc (Nat.le_refl _) o
  cases h1 : finB x with
  | false =>
    rw [h1] at C1
    go_enter Try.func45, Try.ntmps45
    go_wp2_with (go_at_call 37; refine (C1.out _).mono ?_; rintro e wq ⟨rfl, eq⟩; rw [eq]; clear eq wq)
    go_ret
    exact ⟨rfl, HL _⟩
  | true =>
    rw [h1] at C1
    cases h2 : finB y with
    | false =>
      rw [h2] at C2
      go_enter Try.func45, Try.ntmps45
      go_wp2_with (first | (go_at_call_of 37 (Value.float FloatKind.f64 x); refine (C1.out _).mono ?_; rintro e wq ⟨rfl, eq⟩; rw [eq]; clear eq wq) | (go_at_call_of 37 (Value.float FloatKind.f64 y); refine (C2.out _).mono ?_; rintro e wq ⟨rfl, eq⟩; rw [eq]; clear eq wq))
      go_ret
      exact ⟨rfl, HL _⟩
    | true =>
      rw [h2] at C2
      go_enter Try.func45, Try.ntmps45
      go_wp2_with (first | (go_at_call_of 37 (Value.float FloatKind.f64 x); refine (C1.out _).mono ?_; rintro e wq ⟨rfl, eq⟩; rw [eq]; clear eq wq) | (go_at_call_of 37 (Value.float FloatKind.f64 y); refine (C2.out _).mono ?_; rintro e wq ⟨rfl, eq⟩; rw [eq]; clear eq wq))
      go_ret
      exact ⟨by simp, HL _⟩

theorem tick_calls (t : Int) (w : World) : Calls Try.prog 57 #[.int .i64 t] w fun e w' => e = .returned (.bool (decide (0 ≤ t ∧ t ≤ 1000000))) ∧ w' = w := by
  by_cases h0 : 0 ≤ t
  · by_cases h1 : t ≤ 1000000
    · go_enter Try.func57, Try.ntmps57
      go_wp2
      go_ret
      exact ⟨by simp [h0, h1], rfl⟩
    · go_enter Try.func57, Try.ntmps57
      go_wp2
      go_ret
      exact ⟨by simp [h1], rfl⟩
  · go_enter Try.func57, Try.ntmps57
    go_wp2
    go_ret
    exact ⟨by simp; omega, rfl⟩

/-- What a clock shows. -/
def shownO (x y : Nat) (t : Int) : Option Nat := if drB x y = true ∧ (0 ≤ t ∧ t ≤ 1000000) then fop .add (some y) (fop .mul (some x) (some (floatOfInt .f64 t))) else none

theorem dr_parts {x y : Nat} (h : drB x y = true) : finB x = true ∧ finB y = true ∧ rg x ≠ 0 := by
  unfold drB at h
  simp only [Bool.and_eq_true] at h
  obtain ⟨⟨h1, h2⟩, h3⟩ := h
  refine ⟨h1, h2, fun hz => ?_⟩
  have hn : nanB x = false := by
    unfold finB at h1
    unfold nanB
    have h1 := of_decide_eq_true h1
    exact decide_eq_false (by omega)
  have := (zero_iff hn).2 hz
  rw [this] at h3
  cases h3

/-- Of a right clock the two operations are numbers. -/
theorem shown_ops {x y : Nat} (h : drB x y = true) (t : Int) : ∃ p r, floatBits .mul .f64 x (floatOfInt .f64 t) = some p ∧ floatBits .add .f64 y p = some r ∧ nanB r = false ∧ fop .add (some y) (fop .mul (some x) (some (floatOfInt .f64 t))) = some r := by
  obtain ⟨h1, h2, h3⟩ := dr_parts h
  obtain ⟨p, hp, hn⟩ := mul_some h1 h3 (nan_ofInt t)
  obtain ⟨r, hr, hm⟩ := add_some h2 hn
  refine ⟨p, r, hp, hr, hm, ?_⟩
  have e : fop .mul (some x) (some (floatOfInt .f64 t)) = floatBits .mul .f64 x (floatOfInt .f64 t) := rfl
  rw [e, hp]
  exact hr

theorem times_some {x a r : Nat} (h : floatBits .mul .f64 x a = some r) (w : World) : Calls Try.prog 58 #[.float .f64 x, .float .f64 a] w fun e w' => e = .returned (.float .f64 r) ∧ w' = w := by
  have f1 := fb_some h
  have f2 := fw_some h
  clear h
  go_enter Try.func58, Try.ntmps58
  go_wp2
  go_ret
  exact ⟨rfl, rfl⟩

set_option maxHeartbeats 1000000 in
theorem shown_spec (x y : Nat) (t : Int) (w : World) : Calls Try.prog 55 #[.agg #[.float .f64 x, .float .f64 y], .int .i64 t] w (FPost (shownO x y t) w) := by
  unfold FPost
  have CR := hid (fun W => right_spec x y W)
  have CT := hid (fun W => in_anyF t 0 1000000 W)
  cases h1 : drB x y with
  | false =>
    rw [h1] at CR
    have HO : Hid (shownO x y t = none) := hid (by unfold shownO; rw [if_neg (by rw [h1]; simp)])
    go_enter Try.func55, Try.ntmps55
    go_wp2_with (first | (go_at_call 33; refine (none_spec _).mono ?_; rintro e w4 ⟨r, rfl, hr, hb4⟩) | (go_at_call 42; refine (CR.out _).mono ?_; rintro e w2 ⟨rfl, hb2⟩; have K2 := dcell _ _ _ _ _ hb2; have HB2 := hid hb2; clear hb2; obtain ⟨p0, p1⟩ := K2))
    go_ret
    exact ⟨_, rfl, by rw [HO.out]; exact hr, dtr (dbel HB2.out) hb4⟩
  | true =>
    rw [h1] at CR
    by_cases h2 : 0 ≤ t ∧ t ≤ 1000000
    · rw [decide_eq_true h2] at CT
      obtain ⟨p, r, hp, hr, hn, ho⟩ := shown_ops h1 t
      have HO : Hid (shownO x y t = some r) := hid (by unfold shownO; rw [if_pos ⟨h1, h2⟩, ho])
      have f1 := fb_some hp
      have f2 := fw_some hp
      have f3 := fb_some hr
      have f4 := fw_some hr
      clear hp hr ho hn h2
      go_enter Try.func55, Try.ntmps55
      go_wp2_with (first | (go_at_call 42; refine (CR.out _).mono ?_; rintro e w2 ⟨rfl, hb2⟩; have K2 := dcell _ _ _ _ _ hb2; have HB2 := hid hb2; clear hb2; obtain ⟨p0, p1⟩ := K2) | (go_at_call 41; refine (CT.out _).mono ?_; rintro e wq ⟨rfl, eq⟩; rw [eq]; clear eq wq))
      go_ret
      exact ⟨_, rfl, by rw [HO.out]; rfl, dbel HB2.out⟩
    · rw [decide_eq_false h2] at CT
      have HO : Hid (shownO x y t = none) := hid (by unfold shownO; rw [if_neg (fun k => h2 k.2)])
      clear h2
      go_enter Try.func55, Try.ntmps55
      go_wp2_with (first | (go_at_call 33; refine (none_spec _).mono ?_; rintro e w4 ⟨r, rfl, hr, hb4⟩) | (go_at_call 42; refine (CR.out _).mono ?_; rintro e w2 ⟨rfl, hb2⟩; have K2 := dcell _ _ _ _ _ hb2; have HB2 := hid hb2; clear hb2; obtain ⟨p0, p1⟩ := K2) | (go_at_call 41; refine (CT.out _).mono ?_; rintro e wq ⟨rfl, eq⟩; rw [eq]; clear eq wq))
      go_ret
      exact ⟨_, rfl, by rw [HO.out]; exact hr, dtr (dbel HB2.out) hb4⟩

set_option maxHeartbeats 1000000 in
theorem shown_impl (x y : Nat) (hx : x < 18446744073709551616) (hy : y < 18446744073709551616) (t : Int) (w : World) : Calls Try.prog 26 #[.agg #[.float .f64 x, .float .f64 y], .int .i64 t] w (FPost (shownO x y t) w) := by
  unfold FPost
  have CR := hid (fun W => right_impl x y hx hy W)
  have CT := hid (fun W => tick_calls t W)
  cases h1 : drB x y with
  | false =>
    rw [h1] at CR
    have HO : Hid (shownO x y t = none) := hid (by unfold shownO; rw [if_neg (by rw [h1]; simp)])
    go_enter Try.func26, Try.ntmps26
    go_wp2_with (first | (go_at_call 36; refine (none_impl _).mono ?_; rintro e wq ⟨rfl, eq⟩; rw [eq]; clear eq wq) | (go_at_call 45; refine (CR.out _).mono ?_; rintro e w2 ⟨rfl, hb2⟩; have K2 := dcell _ _ _ _ _ hb2; have HB2 := hid hb2; clear hb2; obtain ⟨p0, p1⟩ := K2))
    go_ret
    exact ⟨_, rfl, by rw [HO.out]; exact (by decide : nanB 9221120237041090561 = true), dbel HB2.out⟩
  | true =>
    rw [h1] at CR
    by_cases h2 : 0 ≤ t ∧ t ≤ 1000000
    · rw [decide_eq_true h2] at CT
      obtain ⟨p, r, hp, hr, hn, ho⟩ := shown_ops h1 t
      have HO : Hid (shownO x y t = some r) := hid (by unfold shownO; rw [if_pos ⟨h1, h2⟩, ho])
      have f1 := fb_some hp
      have f2 := fw_some hp
      have f3 := fb_some hr
      have f4 := fw_some hr
      have CM := hid (fun W => times_some (x := x) (a := floatOfInt .f64 t) (r := p) hp W)
      clear hp hr ho hn h2
      go_enter Try.func26, Try.ntmps26
      go_wp2_with (first | (go_at_call 45; refine (CR.out _).mono ?_; rintro e w2 ⟨rfl, hb2⟩; have K2 := dcell _ _ _ _ _ hb2; have HB2 := hid hb2; clear hb2; obtain ⟨p0, p1⟩ := K2) | (go_at_call 57; refine (CT.out _).mono ?_; rintro e wq ⟨rfl, eq⟩; rw [eq]; clear eq wq))
      go_quiet ((go_at_call 58; exact Calls.quiet_of_same (CM.out _)))
      go_wp2
      go_ret
      exact ⟨_, rfl, by rw [HO.out]; rfl, (dbel HB2.out).trans ⟨rfl, rfl, rfl, Nat.le_refl _, fun _ _ => rfl⟩⟩
    · rw [decide_eq_false h2] at CT
      have HO : Hid (shownO x y t = none) := hid (by unfold shownO; rw [if_neg (fun k => h2 k.2)])
      clear h2
      go_enter Try.func26, Try.ntmps26
      go_wp2_with (first | (go_at_call 36; refine (none_impl _).mono ?_; rintro e wq ⟨rfl, eq⟩; rw [eq]; clear eq wq) | (go_at_call 45; refine (CR.out _).mono ?_; rintro e w2 ⟨rfl, hb2⟩; have K2 := dcell _ _ _ _ _ hb2; have HB2 := hid hb2; clear hb2; obtain ⟨p0, p1⟩ := K2) | (go_at_call 57; refine (CT.out _).mono ?_; rintro e wq ⟨rfl, eq⟩; rw [eq]; clear eq wq))
      go_ret
      exact ⟨_, rfl, by rw [HO.out]; exact (by decide : nanB 9221120237041090561 = true), dbel HB2.out⟩

end Go.Proofs.Ythpnlhbfginkjaa
