/- A drawn clock and what it may have shown. -/
import Derived.Test.YtpecdbgbiecdgaaDrawDrift
import Derived.Deep.RegionWith
namespace Go.Proofs.Ytpecdbgbiecdgaa
open Go.RowKit
open Go.Lib (hid)

attribute [local go_sem] run_fadd run_fsub run_fmul run_fquo run_fneg run_store_float

theorem two_put {W : World} {k : Nat} {a b : Value} {t : TypeId} (h : W.heap[k]? = some (.cells #[a, b] t)) (x y : Value) : ((W.setCell ⟨k, 0, none⟩ x).setCell ⟨k, 1, none⟩ y).heap[k]? = some (.cells #[x, y] t) := by
  have h0 : (W.setCell ⟨k, 0, none⟩ x).heap[k]? = some (.cells #[x, b] t) := heap_setCell_same W k 0 _ _ x h
  exact heap_setCell_same _ k 1 _ _ y h0

/-- The reader stands where another block is written into. -/
theorem Rd.other {w w' : World} {b k : Nat} {q : Option Addr} {n c : Nat} (h : Rd w b q n c) (hs : Step k w w') (hb : b ≠ k) (hq : ∀ ad, q = some ad → ad.block ≠ k ∨ n = 0) : Rd w' b q n c := by
  obtain ⟨i, hi, h1⟩ := h.place
  refine ⟨(hs.cell (p := ⟨b, 0, none⟩) h.here hb).trans h.data, ⟨i, hi, (hs.cell (p := ⟨b, 1, none⟩) h.here hb).trans h1⟩, (hs.frozen (p := ⟨b, 1, none⟩) h.here hb).trans h.free, Nat.lt_of_lt_of_le h.here hs.size, h.few, fun j hj => ?_⟩
  obtain ⟨ad, rfl, hne, hl, x, hx0, hx1, hx⟩ := h.bytes j hj
  rcases hq ad rfl with hlt | hz
  · exact ⟨ad, rfl, hne, Nat.lt_of_lt_of_le hl hs.size, x, hx0, hx1, by rw [hs.cell (p := ad.add j) (by rw [rd_block]; exact hl) (by rw [rd_block]; exact hlt)]; exact hx⟩
  · omega

theorem step_two {k : Nat} (W : World) (x y : Value) : Step k W ((W.setCell ⟨k, 0, none⟩ x).setCell ⟨k, 1, none⟩ y) := ((Step.refl k W).setCell 0 x).setCell 1 y

theorem below_step {b : Nat} {w w1 w2 : World} (h : Below w.heap.size w w1) (hs : Step b w1 w2) (hb : w.heap.size ≤ b) : Below w.heap.size w w2 := step_tail h hs hb

abbrev twoL : Array Value := #[.int .i64 50, .int .i64 1000000]

theorem lit_of {u : Int} (h0 : 0 ≤ u) (h1 : u < 2) : ∃ (k : Nat) (v : Int), u = (k : Int) ∧ ((0 : Int) ≤ k ∧ (k : Int) < 2) ∧ 0 ≤ v ∧ v ≤ 1000000 ∧ twoL[k]? = some (.int .i64 v) := by
  rcases (by omega : u = 0 ∨ u = 1) with rfl | rfl
  · exact ⟨0, 50, rfl, by omega, by omega, by omega, rfl⟩
  · exact ⟨1, 1000000, rfl, by omega, by omega, by omega, rfl⟩

set_option maxRecDepth 20000 in
set_option maxHeartbeats 8000000 in
theorem drawn_tickat (w : World) (q : Option Addr) (n c : Nat) (hn : n ≤ 1048576) (hq : TBytes w q n) :
    Calls Try.prog 48 #[.slice q n c] w fun e w' => ∃ x y s : Nat, e = .returned (.tuple #[.agg #[.float .f64 x, .float .f64 y], .float .f64 s]) ∧ x < 18446744073709551616 ∧ y < 18446744073709551616 ∧ Below w.heap.size w w' := by
  have HQ0 : Hid (∀ o : Obj, ∀ i, i < n → ∃ ad : Addr, q = some ad ∧ ad.block < (w.alloc o).heap.size ∧ ∃ x : Int, 0 ≤ x ∧ x < 256 ∧ (w.alloc o).cell? (ad.add i) = some (.int .u8 x)) := hid (fun o i hi => by
    obtain ⟨ad, rfl, hl, x, hx0, hx1, hx⟩ := hq i hi
    exact ⟨ad, rfl, by simp; omega, x, hx0, hx1, by rw [((Below.refl w.heap.size w).alloc (Nat.le_refl _) o).cell (p := ad.add i) (by rw [rd_block]; exact hl)]; exact hx⟩)
  have HQB : Hid (∀ ad, q = some ad → ad.block ≠ w.heap.size ∨ n = 0) := hid (fun ad e => by
    by_cases h0 : n = 0
    · exact .inr h0
    · obtain ⟨ad2, e2, hl, _⟩ := hq 0 (by omega)
      rw [e] at e2
      injection e2 with e2
      subst e2
      exact .inl (by omega))
  clear hq
  go_enter Try.func48, Try.ntmps48
  go_wp2_with (go_at_call 89; refine (d_open _ q n c hn (HQ0.out _)).mono ?_; rintro e w1 ⟨rfl, hr1, hb1⟩; refine Hid.out ?_)
  refine hid ?_
  obtain ⟨b, hb⟩ : ∃ b, b = (w.alloc (.cells #[.float .f64 0, .float .f64 0] 35)).heap.size := ⟨_, rfl⟩
  have hb' : b = w.heap.size + 1 := by rw [hb]; simp
  have HR1 : Hid (Rd w1 b q n c) := hid (by rw [hb]; exact hr1)
  have HV1 : Hid (w1.heap[w.heap.size]? = some (.cells #[.float .f64 0, .float .f64 0] 35)) := hid ((hb1.block _ (by simp)).trans (heap_alloc_new w _))
  have HB1 : Hid (Below w.heap.size w w1) := hid (((Below.refl _ _).alloc (Nat.le_refl _) _).trans (hb1.mono (by simp)))
  have hsz : (w.alloc (.cells #[.float .f64 0, .float .f64 0] 35)).heap.size = w.heap.size + 1 := by simp
  clear hr1 hb1 HQ0 hb
  subst hb'
  go_wp2_with (go_at_call 94; refine (d_drift _ _ _ _ _ HR1.out).mono ?_; unfold DrawnD; rintro e w2 ⟨x, y, rfl, hx, hy, hr2, hs2⟩; refine Hid.out ?_)
  refine hid ?_
  have HR2 := hid hr2
  have HX := hid hx
  have HY := hid hy
  have HB2 := hid (below_step HB1.out hs2 (Nat.le_succ _))
  have HV2 := hid ((hs2.block _ (Array.getElem?_eq_some_iff.1 HV1.out).1 (by omega)).trans HV1.out)
  clear hr2 hs2 hx hy HV1 HR1 HB1 hsz
  have hk2 : w.heap.size < w2.heap.size := (Array.getElem?_eq_some_iff.1 HV2.out).1
  have hb2 : w.heap.size + 1 < w2.heap.size := HR2.out.here
  go_wp2_with (go_at_call 91; refine (d_once 4 (by omega) (by omega) _ _ _ _ _ (by exact HR2.out.below ((Below.refl _ _).alloc (Nat.le_refl _) _))).mono ?_; rintro e w4 ⟨t, rfl, hr4, hs4⟩; refine Hid.out ?_)
  refine hid ?_
  have HR4 := hid hr4
  have HB4 := hid (below_step (HB2.out.alloc (by omega) _) hs4 (Nat.le_succ _))
  have HV4 := hid ((hs4.block _ (by simp; omega) (by omega)).trans ((heap_alloc_old w2 _ hk2).trans HV2.out))
  have HV5 : Hid (w4.heap[w2.heap.size]? = some (.cells #[.float .f64 x, .float .f64 y] 35)) := hid ((hs4.block _ (by simp) (by omega)).trans (heap_alloc_new w2 _))
  clear hr4 hs4 HV2 HR2 HB2
  cases t with
  | true =>
    obtain ⟨a0, a1, a2, a3⟩ := two_cells HV4.out
    obtain ⟨c0, c1, c2, c3⟩ := two_cells HV5.out
    have HRS : Hid (Rd ((w4.drew.setCell ⟨w.heap.size, 0, none⟩ (.float .f64 x)).setCell ⟨w.heap.size, 1, none⟩ (.float .f64 y)) (w.heap.size + 1) q n c) := hid ((HR4.out.drewN 1).other (step_two _ _ _) (by omega) HQB.out)
    have HVS : Hid (((w4.drew.setCell ⟨w.heap.size, 0, none⟩ (.float .f64 x)).setCell ⟨w.heap.size, 1, none⟩ (.float .f64 y)).heap[w.heap.size]? = some (.cells #[.float .f64 x, .float .f64 y] 35)) := hid (two_put (W := w4.drew) HV4.out _ _)
    have hk4 : w.heap.size < w4.heap.size := (Array.getElem?_eq_some_iff.1 HV4.out).1
    have hk5 : w2.heap.size < w4.heap.size := (Array.getElem?_eq_some_iff.1 HV5.out).1
    go_wp2
    go_region_with (go_at_call 90; refine (d_float _ _ _ _ _ (by first | exact HR4.out.drewN 1 | exact HRS.out)).mono ?_; unfold DrawnF; rintro e w5 ⟨s, rfl, hs, hr5, hs5⟩; (try (have HV6 := two_cells ((hs5.block w2.heap.size (by first | exact hk5 | (simp; exact hk5)) (by omega)).trans (by first | exact HV5.out | exact HV5.out)); obtain ⟨d0, d1, d2, d3⟩ := HV6)); (try (have HV7 := two_cells ((hs5.block w.heap.size (by first | exact hk4 | (simp; exact hk4)) (by omega)).trans (by first | exact HV4.out | exact HVS.out)); obtain ⟨e0, e1, e2, e3⟩ := HV7)))
    all_goals
      have HB5 := hid (below_step HB4.out.drew hs5 (Nat.le_succ _))
      have HSS := hid hs
      clear hs hr5 hs5 d2 d3 HRS HVS a0 a1 a2 a3 c0 c1 c2 c3
      go_wp2
      exact bodyPost_ret (v := .tuple #[.agg #[.float .f64 x, .float .f64 y], .float .f64 s]) (by simp [results, Try.results48, go_sem, e0, e1]) rfl ⟨_, _, _, rfl, HX.out, HY.out, (HB5.out.setCell (Nat.le_refl _) _).setCell (Nat.le_refl _) _⟩
  | false =>
    obtain ⟨c0, c1, c2, c3⟩ := two_cells HV5.out
    have hk4 : w.heap.size < w4.heap.size := (Array.getElem?_eq_some_iff.1 HV4.out).1
    have hk5 : w2.heap.size < w4.heap.size := (Array.getElem?_eq_some_iff.1 HV5.out).1
    have hb4 : w.heap.size + 1 < w4.heap.size := HR4.out.here
    have CS := hid (fun t W => shown_spec x y t W)
    unfold FPost at CS
    clear c2 c3
    go_upto_region 5 with (fail)
    go_cut [6] (fun rv wx => ∃ r : Nat, rv = .float .f64 r ∧ Hid (Rd wx (w.heap.size + 1) q n c) ∧ Hid (wx.heap[w.heap.size]? = some (.cells #[.float .f64 0, .float .f64 0] 35)) ∧ Hid (wx.heap[w2.heap.size]? = some (.cells #[.float .f64 x, .float .f64 y] 35)) ∧ Hid (Below w.heap.size w wx))
    case first =>
      go_region_with (first
        | (go_at_call 93; refine (d_below 2 (by omega) _ _ _ _ _ (by first | exact HR4.out.drewN 1 | exact (HR4.out.drewN 1).below ((Below.refl _ _).alloc (Nat.le_refl _) _))).mono ?_; rintro e w5 ⟨u, rfl, ⟨hu0, hu1⟩, hr5, hs5⟩; obtain ⟨k, vb, rfl, ⟨hkk0, hkk1⟩, hv0, hv1, hget⟩ := lit_of hu0 (hu1 (by omega)); have HV2a := hid ((hs5.block w.heap.size (by first | exact hk4 | (simp; omega)) (by omega)).trans (by first | exact HV4.out | exact (heap_alloc_old w4.drew _ hk4).trans HV4.out)); have HV5a := hid ((hs5.block w2.heap.size (by first | exact hk5 | (simp; omega)) (by omega)).trans (by first | exact HV5.out | exact (heap_alloc_old w4.drew _ hk5).trans HV5.out)); have HB5 := hid (below_step (by first | exact HB4.out.drew | exact HB4.out.drew.alloc HB4.out.size _) hs5 (Nat.le_succ _)); (try (have hcell : w5.cell? ⟨w4.heap.size, k, none⟩ = some (.int .i64 vb) := (by first | exact pick_cells hs5 hb4 k _ hget | exact pick_cells (w1 := w4.drew) hs5 hb4 k _ hget))); have hcell2 : (w5.alloc (.cells twoL 2)).cell? ⟨w5.heap.size, k, none⟩ = some (.int .i64 vb) := (by rw [cell_of_row _ w5.heap.size k twoL _ (0, 0) (heap_alloc_new w5 _)]; exact hget); have hf0 := (two_cells HV5a.out).1; have hf1 := (two_cells HV5a.out).2.1; have hg0 : ∀ o : Obj, (w5.alloc o).cell? ⟨w2.heap.size, 0, none⟩ = some (.float .f64 x) := (fun o => (((Below.refl w5.heap.size w5).alloc (Nat.le_refl _) o).cell (p := ⟨w2.heap.size, 0, none⟩) (Array.getElem?_eq_some_iff.1 HV5a.out).1).trans hf0); have hg1 : ∀ o : Obj, (w5.alloc o).cell? ⟨w2.heap.size, 1, none⟩ = some (.float .f64 y) := (fun o => (((Below.refl w5.heap.size w5).alloc (Nat.le_refl _) o).cell (p := ⟨w2.heap.size, 1, none⟩) (Array.getElem?_eq_some_iff.1 HV5a.out).1).trans hf1))
        | (go_at_call 96; refine (d_near 0 vb (by omega) (by omega) (by omega) (by omega) _ _ _ _ _ (by first | exact hr5 | exact hr5.below ((Below.refl _ _).alloc (Nat.le_refl _) _))).mono ?_; rintro e w6 ⟨z, rfl, hz, hr6, hs6⟩; have HV2b := hid ((hs6.block w.heap.size (by have := (Array.getElem?_eq_some_iff.1 HV2a.out).1; first | exact this | (simp; omega)) (by omega)).trans (by first | exact HV2a.out | exact (heap_alloc_old w5 _ (Array.getElem?_eq_some_iff.1 HV2a.out).1).trans HV2a.out)); have HV5b := hid ((hs6.block w2.heap.size (by have := (Array.getElem?_eq_some_iff.1 HV5a.out).1; first | exact this | (simp; omega)) (by omega)).trans (by first | exact HV5a.out | exact (heap_alloc_old w5 _ (Array.getElem?_eq_some_iff.1 HV5a.out).1).trans HV5a.out)); have HB6 := hid (below_step (by first | exact HB5.out | exact HB5.out.alloc HB5.out.size _) hs6 (Nat.le_succ _)); have hf0 := (two_cells HV5b.out).1; have hf1 := (two_cells HV5b.out).2.1)
        | (go_at_call 95; refine (CS.out _ _).mono ?_; rintro e w7 ⟨r, rfl, hr, hb7⟩))
      all_goals
        have HR7 := hid (hr6.below hb7)
        have HB7 := hid (HB6.out.trans (hb7.mono HB6.out.size))
        have HV2c := hid ((hb7.block _ (Array.getElem?_eq_some_iff.1 HV2b.out).1).trans HV2b.out)
        have HV5c := hid ((hb7.block _ (Array.getElem?_eq_some_iff.1 HV5b.out).1).trans HV5b.out)
        clear hb7 hr6 hs6 hr5 hs5 hr hcell2 hg0 hg1 hz hget hv0 hv1 hkk0 hkk1 hu0 hu1
        go_wp2
        go_meet
        case rel => exact ⟨_, rfl, HR7, HV2c, HV5c, HB7⟩
    case rest =>
      obtain ⟨r, rfl, HR7, HV2c, HV5c, HB7⟩ := hcut
      clear CS HR4 HB4 HV4 HV5 c0 c1
      go_wp2_with (go_at_call 91; refine (d_once 3 (by omega) (by omega) _ _ _ _ _ HR7.out).mono ?_; rintro e w8 ⟨t8, rfl, hr8, hs8⟩; refine Hid.out ?_)
      refine hid ?_
      have HR8 := hid hr8
      have HB8 := hid (below_step HB7.out hs8 (Nat.le_succ _))
      have HV2d := hid ((hs8.block _ (Array.getElem?_eq_some_iff.1 HV2c.out).1 (by omega)).trans HV2c.out)
      have HV5d := hid ((hs8.block _ (Array.getElem?_eq_some_iff.1 HV5c.out).1 (by omega)).trans HV5c.out)
      clear hr8 hs8 HR7 HB7 HV2c HV5c
      cases t8 with
      | false =>
        obtain ⟨a0, a1, a2, a3⟩ := two_cells HV2d.out
        obtain ⟨c0, c1, c2, c3⟩ := two_cells HV5d.out
        go_wp2
        exact bodyPost_ret (v := .tuple #[.agg #[.float .f64 x, .float .f64 y], .float .f64 r]) (by simp [results, Try.results48, go_sem, a0, a1]) rfl ⟨_, _, _, rfl, HX.out, HY.out, (HB8.out.setCell (Nat.le_refl _) _).setCell (Nat.le_refl _) _⟩
      | true =>
        go_wp2_with (go_at_call 96; refine (nearF (-9) 9 (by omega) (by omega) (by omega) _ _ _ _ _ HR8.out (by omega) (by omega)).mono ?_; rintro e w9 ⟨z9, rfl, hz0, hz1, hr9, hs9⟩; refine Hid.out ?_)
        refine hid ?_
        have HB9 := hid (below_step HB8.out hs9 (Nat.le_succ _))
        have HV2e := hid ((hs9.block _ (Array.getElem?_eq_some_iff.1 HV2d.out).1 (by omega)).trans HV2d.out)
        have HV5e := hid ((hs9.block _ (Array.getElem?_eq_some_iff.1 HV5d.out).1 (by omega)).trans HV5d.out)
        clear hr9 hs9 HR8 HB8 HV2d HV5d
        obtain ⟨r9, hq9, _⟩ := quo_fin (ofInt_finI (n := z9) (by omega) (by omega)) (show finB 4636737291354636288 = true by decide) (by decide)
        have f1 := fb_some hq9
        have f2 := fw_some hq9
        clear hq9
        obtain ⟨W, hW⟩ : ∃ W, W = fw .add r r9 w9 := ⟨_, rfl⟩
        have hbW : Below w9.heap.size w9 W := by rw [hW]; exact fw_below _ _ _ _ _
        have HBW := hid (HB9.out.trans (hbW.mono HB9.out.size))
        obtain ⟨a0, a1, a2, a3⟩ := two_cells ((hbW.block _ (Array.getElem?_eq_some_iff.1 HV2e.out).1).trans HV2e.out)
        obtain ⟨c0, c1, c2, c3⟩ := two_cells ((hbW.block _ (Array.getElem?_eq_some_iff.1 HV5e.out).1).trans HV5e.out)
        have f3 := hW.symm
        clear hbW hW
        go_wp2
        exact bodyPost_ret (v := .tuple #[.agg #[.float .f64 x, .float .f64 y], .float .f64 (fb .add r r9 w9)]) (by simp [results, Try.results48, go_sem, a0, a1]) rfl ⟨_, _, _, rfl, HX.out, HY.out, (HBW.out.setCell (Nat.le_refl _) _).setCell (Nat.le_refl _) _⟩
end Go.Proofs.Ytpecdbgbiecdgaa
