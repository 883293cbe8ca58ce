/- A drawn clock. -/
import Derived.Test.YthpnlhbfginkjaaDrawLaw
import Derived.Test.YthpnlhbfginkjaaDrawFloats
import Derived.Test.YthpnlhbfginkjaaTickPlain
namespace Go.Proofs.Ythpnlhbfginkjaa
open Go.RowKit
open Go.Lib (hid)

attribute [local go_sem] run_fadd run_fsub run_fmul run_fquo run_fneg run_store_float

theorem ofInt_finI {n : Int} (h0 : -1048576 ≤ n) (h1 : n ≤ 1048576) : finB (floatOfInt .f64 n) = true := by
  have e : floatOfInt .f64 n = Ieee.double.nearest (decide (n < 0)) n.natAbs 0 := rfl
  unfold finB
  rw [e, rg_nearest]
  have h2 := rung_mono (show n.natAbs ≤ 1048576 by omega) 0
  have h3 : rung 1048576 0 < 9218868437227405312 := by decide
  exact decide_eq_true (by omega)

/-- A quotient of two numbers is a number or an infinity. -/
theorem quo_fin {x y : Nat} (hx : finB x = true) (hy : finB y = true) (hz : rg y ≠ 0) : ∃ r, floatBits .quo .f64 x y = some r ∧ r < 18446744073709551616 := by
  obtain ⟨m, e, h1, h2⟩ := read_fin hx
  obtain ⟨n, f, g1, g2⟩ := read_fin hy
  have hn : n ≠ 0 := fun h => by
    have := vr_pos hz
    rw [← g2, h, Nat.zero_mul] at this
    exact absurd this (Nat.lt_irrefl _)
  have h : ∃ r, floatBits .quo .f64 x y = some r := by
    unfold floatBits
    rw [f64_format]
    show ∃ r, ((Ieee.double.read x).quotient _ (Ieee.double.read y)).map Ieee.double.write = some r
    rw [h1, g1]
    simp only [Ieee.Datum.quotient, hn, if_false]
    exact ⟨_, rfl⟩
  obtain ⟨r, hr⟩ := h
  refine ⟨r, hr, ?_⟩
  have := floatBits_wf hr
  simp [Lit.wf] at this
  exact this

theorem step_own {b : Nat} {w w1 w2 : World} (h : Step b w w1) (hb : Below w.heap.size w1 w2) : Step b w w2 :=
  ⟨hb.os.trans h.os, hb.tape.trans h.tape, hb.output.trans h.output, Nat.le_trans h.size hb.size, fun k hk hne => (hb.block k hk).trans (h.block k hk hne)⟩

/-- A drawn clock. -/
def DrawnD (b : Nat) (q : Option Addr) (n c : Nat) (w : World) (e : Ending) (w' : World) : Prop :=
  ∃ x y : Nat, e = .returned (.agg #[.float .f64 x, .float .f64 y]) ∧ x < 18446744073709551616 ∧ y < 18446744073709551616 ∧ Rd w' b q n c ∧ Step b w w'

theorem two_cells {W : World} {k : Nat} {a b : Value} {t : TypeId} (h : W.heap[k]? = some (.cells #[a, b] t)) : W.cell? ⟨k, 0, none⟩ = some a ∧ W.cell? ⟨k, 1, none⟩ = some b ∧ W.frozen? ⟨k, 0, none⟩ = false ∧ W.frozen? ⟨k, 1, none⟩ = false := by
  refine ⟨(cell_of_row _ _ _ _ _ _ h).trans rfl, (cell_of_row _ _ _ _ _ _ h).trans rfl, ?_, ?_⟩
  all_goals
    unfold World.frozen?
    simp [h]

set_option maxRecDepth 20000 in
set_option maxHeartbeats 4000000 in
theorem d_drift (w : World) (b : Nat) (q : Option Addr) (n c : Nat) (h : Rd w b q n c) :
    Calls Try.prog 53 #[.pointer (some ⟨b, 0, none⟩)] w (DrawnD b q n c w) := by
  unfold DrawnD
  have HR := hid h
  have hbw := h.here
  have HOLD := hid h.old
  clear h
  go_enter Try.func53, Try.ntmps53
  go_wp2_with (go_at_call 48; refine (d_below 40 (by omega) _ _ _ _ _ (by exact HR.out.below ((Below.refl _ _).alloc (Nat.le_refl _) _))).mono ?_; rintro e w1 ⟨u, rfl, ⟨hu0, hu1⟩, hr1, hs1⟩; refine Hid.out ?_)
  refine hid ?_
  have HR1 := hid hr1
  have HS1 := hid (((Step.refl b w).alloc _).trans hs1)
  have HV2 : Hid (w1.heap[w.heap.size]? = some (.cells #[.float .f64 0, .float .f64 0] 34)) := hid ((hs1.block _ (by simp) (by omega)).trans (heap_alloc_new w _))
  have hu2 := hu1 (by omega)
  clear hr1 hs1 hu1
  obtain ⟨r1, hq1, hl1⟩ := quo_fin (ofInt_finI (n := 1 + u) (by omega) (by omega)) (show finB 4625196817309499392 = true by decide) (by decide)
  have f1 := fb_some hq1
  have f2 := fw_some hq1
  have HL1 := hid hl1
  clear hq1 hl1
  have hs1z := HS1.out.size
  go_wp2_with (go_at_call 54; refine (nearF (-400) 400 (by omega) (by omega) (by omega) _ _ _ _ _ HR1.out (by omega) (by omega)).mono ?_; rintro e w2 ⟨z, rfl, hz0, hz1, hr2, hs2⟩; refine Hid.out ?_)
  refine hid ?_
  have HR2 := hid hr2
  have HS2 := hid (HS1.out.trans hs2)
  have HV2b := hid ((hs2.block _ (by have := (Array.getElem?_eq_some_iff.1 HV2.out).1; omega) (by omega)).trans HV2.out)
  clear hr2 hs2 HV2 f1 f2
  obtain ⟨r2, hq2, hl2⟩ := quo_fin (ofInt_finI (n := z) (by omega) (by omega)) (show finB 4621819117588971520 = true by decide) (by decide)
  have f1 := fb_some hq2
  have f2 := fw_some hq2
  have HL2 := hid hl2
  clear hq2 hl2 hu0 hu2 hz0 hz1
  have hlt2 : w.heap.size < w2.heap.size := (Array.getElem?_eq_some_iff.1 HV2b.out).1
  go_wp2_with (go_at_call 48; refine (d_below 16 (by omega) _ _ _ _ _ (by exact HR2.out.below ((Below.refl _ _).alloc (Nat.le_refl _) _))).mono ?_; rintro e w4 ⟨v, rfl, ⟨hv0, hv1⟩, hr4, hs4⟩; refine Hid.out ?_)
  refine hid ?_
  have HR4 := hid hr4
  have HS4 := hid ((HS2.out.alloc _).trans hs4)
  have HV2c := hid ((hs4.block w.heap.size (by simp; omega) (by omega)).trans ((heap_alloc_old w2 _ hlt2).trans HV2b.out))
  have HV3 : Hid (w4.heap[w2.heap.size]? = some (.cells #[.float .f64 r1, .float .f64 r2] 34)) := hid ((hs4.block _ (by simp) (by omega)).trans (heap_alloc_new w2 _))
  have hne : w.heap.size ≠ w2.heap.size := by omega
  clear hr4 hs4 hv1 f1 f2 HV2b
  by_cases v0 : v = 0
  · subst v0
    go_wp2_with (go_at_call 49; refine (d_float _ _ _ _ _ HR4.out).mono ?_; unfold DrawnF; rintro e w5 ⟨s, rfl, hs, hr5, hs5⟩; refine Hid.out ?_)
    refine hid ?_
    have HR5 := hid hr5
    have HS5 := hid (HS4.out.trans hs5)
    have HSS := hid hs
    have HV2d := hid ((hs5.block _ (Array.getElem?_eq_some_iff.1 HV2c.out).1 (by omega)).trans HV2c.out)
    have HV3d := hid ((hs5.block _ (Array.getElem?_eq_some_iff.1 HV3.out).1 (by omega)).trans HV3.out)
    clear hr5 hs5 hs
    obtain ⟨a0, a1, a2, a3⟩ := two_cells HV2d.out
    obtain ⟨c0, c1, c2, c3⟩ := two_cells HV3d.out
    have hw0 : w.heap.size ≤ w2.heap.size := by omega
    go_wp2
    refine bodyPost_ret (v := .agg #[.float .f64 s, .float .f64 r2]) (by simp [results, Try.results53, go_sem, a0, a1]) rfl ⟨_, _, rfl, HSS.out, HL2.out, HR5.out.under hbw ?_ HOLD.out, step_own HS5.out ?_⟩
    all_goals repeat (first | exact Below.refl _ _ | (refine Below.setCell ?_ (by first | exact Nat.le_refl _ | exact hw0) _))
  by_cases v1 : v = 1
  · subst v1
    go_wp2_with (go_at_call 49; refine (d_float _ _ _ _ _ HR4.out).mono ?_; unfold DrawnF; rintro e w5 ⟨s, rfl, hs, hr5, hs5⟩; refine Hid.out ?_)
    refine hid ?_
    have HR5 := hid hr5
    have HS5 := hid (HS4.out.trans hs5)
    have HSS := hid hs
    have HV2d := hid ((hs5.block _ (Array.getElem?_eq_some_iff.1 HV2c.out).1 (by omega)).trans HV2c.out)
    have HV3d := hid ((hs5.block _ (Array.getElem?_eq_some_iff.1 HV3.out).1 (by omega)).trans HV3.out)
    clear hr5 hs5 hs
    obtain ⟨a0, a1, a2, a3⟩ := two_cells HV2d.out
    obtain ⟨c0, c1, c2, c3⟩ := two_cells HV3d.out
    have hw0 : w.heap.size ≤ w2.heap.size := by omega
    go_wp2
    refine bodyPost_ret (v := .agg #[.float .f64 r1, .float .f64 s]) (by simp [results, Try.results53, go_sem, a0, a1]) rfl ⟨_, _, rfl, HL1.out, HSS.out, HR5.out.under hbw ?_ HOLD.out, step_own HS5.out ?_⟩
    all_goals repeat (first | exact Below.refl _ _ | (refine Below.setCell ?_ (by first | exact Nat.le_refl _ | exact hw0) _))
  have n0 : (v == 0) = false := by simpa using v0
  have n1 : (v == 1) = false := by simpa using v1
  clear v0 v1
  have HV3c := HV3
  obtain ⟨a0, a1, a2, a3⟩ := two_cells HV2c.out
  obtain ⟨c0, c1, c2, c3⟩ := two_cells HV3c.out
  have hw0 : w.heap.size ≤ w2.heap.size := by omega
  go_wp2
  refine bodyPost_ret (v := .agg #[.float .f64 r1, .float .f64 r2]) (by simp [results, Try.results53, go_sem, a0, a1]) rfl ⟨_, _, rfl, HL1.out, HL2.out, HR4.out.under hbw ?_ HOLD.out, step_own HS4.out ?_⟩
  all_goals repeat (first | exact Below.refl _ _ | (refine Below.setCell ?_ (by first | exact Nat.le_refl _ | exact hw0) _))
end Go.Proofs.Ythpnlhbfginkjaa
