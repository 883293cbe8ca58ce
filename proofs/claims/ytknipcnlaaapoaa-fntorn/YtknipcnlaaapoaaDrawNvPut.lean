/- A drawn put: words, numbers, cut. -/
import Derived.Test.YtknipcnlaaapoaaDrawNv2
import Derived.Test.YtknipcnlaaapoaaLawFnTorn
namespace Go.Proofs.Ytknipcnlaaapoaa
open Go.RowKit
open Go.Lib (hid)

theorem bytes_on {w w' : World} {q : Option Addr} {n : Nat} (hq : ∀ i, i < n → ∃ ad : Addr, q = some ad ∧ ad.block < w.heap.size ∧ ∃ x : Int, 0 ≤ x ∧ x < 256 ∧ w.cell? (ad.add i) = some (.int .u8 x)) (hb : Below w.heap.size w w') :
    ∀ i, i < n → ∃ ad : Addr, q = some ad ∧ ad.block < w'.heap.size ∧ ∃ x : Int, 0 ≤ x ∧ x < 256 ∧ w'.cell? (ad.add i) = some (.int .u8 x) := by
  intro i hi
  obtain ⟨ad, e, hl, x, h0, h1, hc⟩ := hq i hi
  exact ⟨ad, e, Nat.lt_of_lt_of_le hl hb.size, x, h0, h1, (hb.cell (p := ad.add i) (by rw [rd_block]; exact hl)).trans hc⟩

/-- What is drawn for writes. -/
def DrawnWrites (w : World) (e : Ending) (w' : World) : Prop :=
  ∃ (s : Int) (W vs : List Int) (p : Option Addr) (k cc g cap : Nat), e = .returned (.tuple #[.agg #[.int .i64 s, .slice p k cc], .slice (some ⟨g, 0, none⟩) vs.length cap]) ∧ k = W.length ∧ W.length ≤ 100 ∧ vs.length ≤ 26 ∧ RowIn w' (.slice p k cc) W ∧ (∀ g o k2 c2, (Value.slice p k cc) = .slice (some ⟨g, o, none⟩) k2 c2 → w.heap.size < g) ∧ w'.ownsRow w.heap.size 2 1 (.slice (some ⟨g, 0, none⟩) vs.length cap) vs.length (ints vs) ∧ Below w.heap.size w w'

theorem drawn_writes {w : World} {e : Ending} {w' : World} (s : Int) (W vs : List Int) (p : Option Addr) (k cc g cap : Nat) (h1 : e = .returned (.tuple #[.agg #[.int .i64 s, .slice p k cc], .slice (some ⟨g, 0, none⟩) vs.length cap])) (hk : k = W.length) (h2 : W.length ≤ 100) (h3 : vs.length ≤ 26) (h4 : RowIn w' (.slice p k cc) W) (h7 : ∀ g o k2 c2, (Value.slice p k cc) = .slice (some ⟨g, o, none⟩) k2 c2 → w.heap.size < g) (h5 : w'.ownsRow w.heap.size 2 1 (.slice (some ⟨g, 0, none⟩) vs.length cap) vs.length (ints vs)) (h6 : Below w.heap.size w w') : DrawnWrites w e w' :=
  ⟨s, W, vs, p, k, cc, g, cap, h1, hk, h2, h3, h4, h7, h5, h6⟩

theorem below_of_step {w u v : World} {b : Nat} (h : Below w.heap.size w u) (hb : w.heap.size ≤ b) (hs : Step b u v) : Below w.heap.size w v :=
  ⟨hs.os.trans h.os, hs.tape.trans h.tape, hs.output.trans h.output, Nat.le_trans h.size hs.size, fun k hk => (hs.block k (Nat.lt_of_lt_of_le hk h.size) (by omega)).trans (h.block k hk)⟩

theorem rowin_step {w w' : World} {b : Nat} {v : Value} {l : List Int} (h : RowIn w v l) (hne : ∀ g o k cc, v = .slice (some ⟨g, o, none⟩) k cc → g ≠ b) (hs : Step b w w') : RowIn w' v l := by
  obtain ⟨p, c', rfl, hc, hp⟩ := h
  refine ⟨p, c', rfl, hc, fun hl => ?_⟩
  obtain ⟨g, o, rfl, hg, hcell⟩ := hp hl
  exact ⟨g, o, rfl, Nat.lt_of_lt_of_le hg hs.size, fun j hj => (hs.cell (p := ⟨g, o + j, none⟩) hg (hne _ _ _ _ rfl)).trans (hcell j hj)⟩

theorem rowin_keep {w0 w : World} {p : Option Addr} {k cc : Nat} {l : List Int} (h0 : RowIn w0 (.slice p k cc) l) (h : RowIn w (.slice p k cc) l) {x : Nat} (hx : w0.heap.size ≤ x ∨ ∀ g o k2 c2, (Value.slice p k cc) = .slice (some ⟨g, o, none⟩) k2 c2 → g ≠ x) (o : Nat) (u : Value) : RowIn (w.setCell ⟨x, o, none⟩ u) (.slice p k cc) l := by
  obtain ⟨p', c', e, hc, hr⟩ := h
  injection e with e1 e2 e3
  subst e1 e2 e3
  obtain ⟨p2, c2, f, _, hr0⟩ := h0
  injection f with f1 _ _
  subst f1
  refine ⟨_, _, rfl, hc, fun hne => ?_⟩
  obtain ⟨g, o2, rfl, hg, hcell⟩ := hr hne
  obtain ⟨g', o', e', hg', _⟩ := hr0 hne
  injection e' with e'
  injection e' with e' _ _
  subst e'
  have hgx : g ≠ x := by
    rcases hx with hx | hx
    · omega
    · exact hx g o2 _ _ rfl
  refine ⟨g, o2, rfl, by simpa [World.setCell] using hg, fun j hj => ?_⟩
  rw [← hcell j hj]
  unfold World.cell?
  dsimp only
  rw [heap_setCell_other w ⟨x, o, none⟩ g u (fun e => hgx e)]

set_option maxRecDepth 20000 in
set_option maxHeartbeats 8000000 in
theorem d_writes (w : World) (q : Option Addr) (n c : Nat) (hn : n ≤ 1048576) (hq : ∀ i, i < n → ∃ ad : Addr, q = some ad ∧ ad.block < w.heap.size ∧ ∃ x : Int, 0 ≤ x ∧ x < 256 ∧ w.cell? (ad.add i) = some (.int .u8 x)) :
    Calls Try.prog 11 #[.slice q n c] w (DrawnWrites w) := by
  obtain ⟨w0, hw0⟩ : ∃ W, W = w.alloc (.cells #[.int .i64 0, .slice none 0 0] 26) := ⟨_, rfl⟩
  have hb0 : Below w.heap.size w w0 := by rw [hw0]; exact (Below.refl _ _).alloc (Nat.le_refl _) _
  have HB0 := hid hb0
  have HBX : Hid (w0.heap[w.heap.size]? = some (.cells #[.int .i64 0, .slice none 0 0] 26)) := hid (by rw [hw0]; exact heap_alloc_new _ _)
  have hz0 : w0.heap.size = w.heap.size + 1 := by rw [hw0]; simp
  have CO := hid (d_open w0 q n c hn (bytes_on hq hb0))
  have HW0 := hid hw0
  clear hw0 hb0 hq
  obtain ⟨rb, hrb⟩ : ∃ X, X = w0.heap.size := ⟨_, rfl⟩
  rw [← hrb] at CO
  have hrw : w.heap.size < rb := by omega
  have hrb0 : rb ≤ w0.heap.size := by omega
  have HRBE := hid hrb
  clear hrb
  go_enter Try.func11, Try.ntmps11
  go_wp2_with (go_at_call 10; rw [← HW0.out]; refine (CO.out).mono ?_; rintro e w1 ⟨rfl, hr1, hb1⟩; refine Hid.out ?_)
  refine hid ?_
  have HB1 := hid (HB0.out.trans (hb1.mono (by omega)))
  have HX1 := hid ((hb1.block w.heap.size (by omega)).trans HBX.out)
  have HR1 := hid hr1
  have hz1 := hb1.size
  clear hr1 hb1
  go_wp2_with (go_at_call 21; refine (d_nv _ _ _ _ _ HR1.out).mono ?_; unfold DrawnNv; rintro e w2 ⟨s, W, sv, rfl, hs, hW, hrow, hfar, hr2, hs2⟩; refine Hid.out ?_)
  refine hid ?_
  obtain ⟨p, cc, rfl, _⟩ := id hrow
  obtain ⟨w3, hw3⟩ : ∃ X, X = w2.alloc (.cells #[.int .i64 s, .slice p W.length cc] 26) := ⟨_, rfl⟩
  have hb3 : Below w2.heap.size w2 w3 := by rw [hw3]; exact (Below.refl _ _).alloc (Nat.le_refl _) _
  have HR3 := hid (hr2.below hb3)
  have HB2 := hid (below_of_step HB1.out (Nat.le_of_lt hrw) hs2)
  have HX2 := hid ((hs2.block w.heap.size (by omega) (by omega)).trans HX1.out)
  have HB3 := hid (HB2.out.trans (hb3.mono HB2.out.size))
  have HX3 := hid ((hb3.block w.heap.size (by have := HB2.out.size; have := hs2.size; omega)).trans HX2.out)
  have HROW3 := hid (hrow.on hb3)
  have HV3 : Hid (w3.heap[w2.heap.size]? = some (.cells #[.int .i64 s, .slice p W.length cc] 26)) := hid (by rw [hw3]; exact heap_alloc_new _ _)
  have hz2 := hs2.size
  have hz3 : w2.heap.size < w3.heap.size := by rw [hw3]; simp
  have hrb2 := hr2.here
  have HW3 := hid hw3
  clear hw3 hb3 hr2 hs2 hrow
  obtain ⟨d0, d1⟩ := var_cells HV3.out
  go_upto_region 4 with (fail)
  obtain ⟨m, hm⟩ : ∃ m : Nat, max 1 (min s 25) = (m : Int) := ⟨_, (Int.toNat_of_nonneg (by omega)).symm⟩
  have hm1 : 1 ≤ m := by omega
  have hm2 : m ≤ 25 := by omega
  rw [hm]
  clear hm
  go_wp2_with (go_at_call 22; rw [← HW3.out]; refine (d_once 16 (by omega) (by omega) _ _ _ _ _ HR3.out).mono ?_; rintro e w4 ⟨t, rfl, hr4, hs4⟩; refine Hid.out ?_)
  refine hid ?_
  obtain ⟨bx, hbx⟩ : ∃ X, X = w2.heap.size := ⟨_, rfl⟩
  rw [← hbx] at HV3 ⊢
  have hrbx : rb < bx := by omega
  have hbx3 : bx < w3.heap.size := by omega
  have hwbx : w.heap.size < bx := by omega
  clear hbx d0 d1
  have HR4 := hid hr4
  have HB4 := hid (below_of_step HB3.out (Nat.le_of_lt hrw) hs4)
  have HX4 := hid ((hs4.block w.heap.size (by omega) (by omega)).trans HX3.out)
  have HV4 := hid ((hs4.block bx hbx3 (by omega)).trans HV3.out)
  have hpr : ∀ g o k2 c2, (Value.slice p W.length cc) = .slice (some ⟨g, o, none⟩) k2 c2 → g ≠ rb := fun g o k2 c2 e => by have := hfar g o k2 c2 e; omega
  have hpw : ∀ g o k2 c2, (Value.slice p W.length cc) = .slice (some ⟨g, o, none⟩) k2 c2 → g ≠ w.heap.size := fun g o k2 c2 e => by have := hfar g o k2 c2 e; omega
  have HROW4 := hid (rowin_step HROW3.out hpr hs4)
  have hz4 := hs4.size
  have HPR := hid hpr
  have HPW := hid hpw
  have HFAR := hid (fun g o k2 c2 (e : (Value.slice p W.length cc) = .slice (some ⟨g, o, none⟩) k2 c2) => (show w.heap.size < g by have := hfar g o k2 c2 e; omega))
  clear hr4 hs4 hpr hpw hfar
  cases t with
  | false =>
    obtain ⟨m2, hm3⟩ : ∃ m2 : Nat, m2 = m := ⟨_, rfl⟩
    rw [← hm3]
    have hm4 : m2 ≤ 26 := by omega
    have hm5 : 1 ≤ m2 := by omega
    clear hm3
    go_wp2_with (go_at_call 23; refine (d_numbers m2 (by omega) _ _ _ _ _ HR4.out).mono ?_; rintro e w5 ⟨v, l, rfl, hl, hg⟩; refine Hid.out ?_)
    refine hid ?_
    obtain ⟨gl, cl, rfl, hgl, hgl2⟩ := own_form hg.own (by omega)
    have HLL := hid hl
    have HR5 := hid hg.reader
    have HO5 := hid hg.own
    have HB5 := hid (below_of_step HB4.out (Nat.le_of_lt hrw) hg.step)
    have HX5 := hid ((hg.step.block w.heap.size (by omega) (by omega)).trans HX4.out)
    have HV5 := hid ((hg.step.block bx (by omega) (by omega)).trans HV4.out)
    have HROW5 := hid (rowin_step HROW4.out HPR.out hg.step)
    have hz5 := hg.step.size
    clear hg hl
    go_wp2_with (go_at_call 22; refine (d_once 16 (by omega) (by omega) _ _ _ _ _ HR5.out).mono ?_; rintro e w6 ⟨t2, rfl, hr6, hs6⟩; refine Hid.out ?_)
    refine hid ?_
    have HR6 := hid hr6
    have HO6 := hid (nv_own_step HO5.out (by omega) hs6)
    have HB6 := hid (below_of_step HB5.out (Nat.le_of_lt hrw) hs6)
    have HX6 := hid ((hs6.block w.heap.size (by omega) (by omega)).trans HX5.out)
    have HV6 := hid ((hs6.block bx (by omega) (by omega)).trans HV5.out)
    have HROW6 := hid (rowin_step HROW5.out HPR.out hs6)
    have hz6 := hs6.size
    clear hr6 hs6
    have hl0 : 0 < l.length := by have := HLL.out; omega
    have hl0i : (0 : Int) < (l.length : Int) := by omega
    cases t2 with
    | false =>
      obtain ⟨r0, r1⟩ := var_cells HX6.out
      have e0 := var_thaw HX6.out 0
      have e1 := var_thaw HX6.out 1
      obtain ⟨j0, j1⟩ := var_cells HV6.out
      go_wp2
      refine bodyPost_ret (v := .tuple #[.agg #[.int .i64 s, .slice p W.length cc], .slice (some ⟨gl, 0, none⟩) (l).length cl]) (by simp [results, Try.results11, go_sem, r0, r1]) rfl ?_
      exact drawn_writes s W (l) p _ cc gl cl rfl rfl hW (by have := HLL.out; omega) (rowin_keep HROW3.out (rowin_keep HROW3.out HROW6.out (Or.inr HPW.out) 0 _) (Or.inr HPW.out) 1 _) HFAR.out (ownsRow_setCell_other (ownsRow_setCell_other (own_raise HO6.out (by omega)) (a := ⟨w.heap.size, 0, none⟩) (fun e => by have h : gl = w.heap.size := Option.some.inj e; omega) _) (a := ⟨w.heap.size, 1, none⟩) (fun e => by have h : gl = w.heap.size := Option.some.inj e; omega) _) ((HB6.out.setCell (p := ⟨w.heap.size, 0, none⟩) (Nat.le_refl _) _).setCell (p := ⟨w.heap.size, 1, none⟩) (Nat.le_refl _) _)
    | true =>
      go_wp2_with (go_at_call 12; refine (d_off 0 1000000000 (by omega) (by omega) (by omega) (by omega) _ _ _ _ _ HR6.out).mono ?_; rintro e w7 ⟨y, rfl, _, hr7, hs7⟩; have hc7 := (nv_own_step HO6.out (show rb < w4.heap.size by omega) hs7).cellAt 0 (by have := HLL.out; omega); rw [ints_at l 0 (by have := HLL.out; omega)] at hc7; have hf7 := (nv_own_step HO6.out (show rb < w4.heap.size by omega) hs7).frozenAt 0; refine Hid.out ?_)
      refine hid ?_
      have HST := hid ((nv_own_step HO6.out (show rb < w4.heap.size by omega) hs7).stored 0 (.int .i64 y)).1
      rw [ints_set] at HST
      have HB8 := hid ((below_of_step HB6.out (Nat.le_of_lt hrw) hs7).setCell (p := ⟨gl, 0, none⟩) (by show w.heap.size ≤ gl; omega) (.int .i64 y))
      have HX8 := hid ((heap_setCell_other w7 ⟨gl, 0, none⟩ w.heap.size (.int .i64 y) (by show w.heap.size ≠ gl; omega)).trans ((hs7.block w.heap.size (by omega) (by omega)).trans HX6.out))
      have HV8 := hid ((heap_setCell_other w7 ⟨gl, 0, none⟩ bx (.int .i64 y) (by show bx ≠ gl; omega)).trans ((hs7.block bx (by omega) (by omega)).trans HV6.out))
      have HROW8 := hid (rowin_keep HROW3.out (rowin_step HROW6.out HPR.out hs7) (Or.inl (show w3.heap.size ≤ gl by omega)) 0 (.int .i64 y))
      have HLS : Hid ((l.set 0 y).length = l.length) := hid List.length_set
      rw [← HLS.out] at HST
      obtain ⟨w8, hw8⟩ : ∃ X, X = w7.setCell ⟨gl, 0, none⟩ (.int .i64 y) := ⟨_, rfl⟩
      rw [← hw8] at HST HB8 HX8 HV8 HROW8
      have HW8 := hid hw8
      clear hw8 hs7 hr7
      rw [← HLS.out]
      try rw [← HW8.out]
      go_upto_region 9 with (fail)
      try rw [← HW8.out]
      obtain ⟨r0, r1⟩ := var_cells HX8.out
      have e0 := var_thaw HX8.out 0
      have e1 := var_thaw HX8.out 1
      obtain ⟨j0, j1⟩ := var_cells HV8.out
      go_wp2
      refine bodyPost_ret (v := .tuple #[.agg #[.int .i64 s, .slice p W.length cc], .slice (some ⟨gl, 0, none⟩) (l.set 0 y).length cl]) (by simp [results, Try.results11, go_sem, r0, r1]) rfl ?_
      exact drawn_writes s W (l.set 0 y) p _ cc gl cl rfl rfl hW (by have := HLL.out; rw [List.length_set]; omega) (rowin_keep HROW3.out (rowin_keep HROW3.out HROW8.out (Or.inr HPW.out) 0 _) (Or.inr HPW.out) 1 _) HFAR.out (ownsRow_setCell_other (ownsRow_setCell_other (own_raise HST.out (by omega)) (a := ⟨w.heap.size, 0, none⟩) (fun e => by have h : gl = w.heap.size := Option.some.inj e; omega) _) (a := ⟨w.heap.size, 1, none⟩) (fun e => by have h : gl = w.heap.size := Option.some.inj e; omega) _) ((HB8.out.setCell (p := ⟨w.heap.size, 0, none⟩) (Nat.le_refl _) _).setCell (p := ⟨w.heap.size, 1, none⟩) (Nat.le_refl _) _)
  | true =>
    go_upto_region 6 with (fail)
    obtain ⟨m2, hm3⟩ : ∃ m2 : Nat, (m2 : Int) = (m : Int) + 1 := ⟨m + 1, by omega⟩
    rw [← hm3]
    have hm4 : m2 ≤ 26 := by omega
    have hm5 : 1 ≤ m2 := by omega
    clear hm3
    go_wp2_with (go_at_call 23; refine (d_numbers m2 (by omega) _ _ _ _ _ HR4.out).mono ?_; rintro e w5 ⟨v, l, rfl, hl, hg⟩; refine Hid.out ?_)
    refine hid ?_
    obtain ⟨gl, cl, rfl, hgl, hgl2⟩ := own_form hg.own (by omega)
    have HLL := hid hl
    have HR5 := hid hg.reader
    have HO5 := hid hg.own
    have HB5 := hid (below_of_step HB4.out (Nat.le_of_lt hrw) hg.step)
    have HX5 := hid ((hg.step.block w.heap.size (by omega) (by omega)).trans HX4.out)
    have HV5 := hid ((hg.step.block bx (by omega) (by omega)).trans HV4.out)
    have HROW5 := hid (rowin_step HROW4.out HPR.out hg.step)
    have hz5 := hg.step.size
    clear hg hl
    go_wp2_with (go_at_call 22; refine (d_once 16 (by omega) (by omega) _ _ _ _ _ HR5.out).mono ?_; rintro e w6 ⟨t2, rfl, hr6, hs6⟩; refine Hid.out ?_)
    refine hid ?_
    have HR6 := hid hr6
    have HO6 := hid (nv_own_step HO5.out (by omega) hs6)
    have HB6 := hid (below_of_step HB5.out (Nat.le_of_lt hrw) hs6)
    have HX6 := hid ((hs6.block w.heap.size (by omega) (by omega)).trans HX5.out)
    have HV6 := hid ((hs6.block bx (by omega) (by omega)).trans HV5.out)
    have HROW6 := hid (rowin_step HROW5.out HPR.out hs6)
    have hz6 := hs6.size
    clear hr6 hs6
    have hl0 : 0 < l.length := by have := HLL.out; omega
    have hl0i : (0 : Int) < (l.length : Int) := by omega
    cases t2 with
    | false =>
      obtain ⟨r0, r1⟩ := var_cells HX6.out
      have e0 := var_thaw HX6.out 0
      have e1 := var_thaw HX6.out 1
      obtain ⟨j0, j1⟩ := var_cells HV6.out
      go_wp2
      refine bodyPost_ret (v := .tuple #[.agg #[.int .i64 s, .slice p W.length cc], .slice (some ⟨gl, 0, none⟩) (l).length cl]) (by simp [results, Try.results11, go_sem, r0, r1]) rfl ?_
      exact drawn_writes s W (l) p _ cc gl cl rfl rfl hW (by have := HLL.out; omega) (rowin_keep HROW3.out (rowin_keep HROW3.out HROW6.out (Or.inr HPW.out) 0 _) (Or.inr HPW.out) 1 _) HFAR.out (ownsRow_setCell_other (ownsRow_setCell_other (own_raise HO6.out (by omega)) (a := ⟨w.heap.size, 0, none⟩) (fun e => by have h : gl = w.heap.size := Option.some.inj e; omega) _) (a := ⟨w.heap.size, 1, none⟩) (fun e => by have h : gl = w.heap.size := Option.some.inj e; omega) _) ((HB6.out.setCell (p := ⟨w.heap.size, 0, none⟩) (Nat.le_refl _) _).setCell (p := ⟨w.heap.size, 1, none⟩) (Nat.le_refl _) _)
    | true =>
      go_wp2_with (go_at_call 12; refine (d_off 0 1000000000 (by omega) (by omega) (by omega) (by omega) _ _ _ _ _ HR6.out).mono ?_; rintro e w7 ⟨y, rfl, _, hr7, hs7⟩; have hc7 := (nv_own_step HO6.out (show rb < w4.heap.size by omega) hs7).cellAt 0 (by have := HLL.out; omega); rw [ints_at l 0 (by have := HLL.out; omega)] at hc7; have hf7 := (nv_own_step HO6.out (show rb < w4.heap.size by omega) hs7).frozenAt 0; refine Hid.out ?_)
      refine hid ?_
      have HST := hid ((nv_own_step HO6.out (show rb < w4.heap.size by omega) hs7).stored 0 (.int .i64 y)).1
      rw [ints_set] at HST
      have HB8 := hid ((below_of_step HB6.out (Nat.le_of_lt hrw) hs7).setCell (p := ⟨gl, 0, none⟩) (by show w.heap.size ≤ gl; omega) (.int .i64 y))
      have HX8 := hid ((heap_setCell_other w7 ⟨gl, 0, none⟩ w.heap.size (.int .i64 y) (by show w.heap.size ≠ gl; omega)).trans ((hs7.block w.heap.size (by omega) (by omega)).trans HX6.out))
      have HV8 := hid ((heap_setCell_other w7 ⟨gl, 0, none⟩ bx (.int .i64 y) (by show bx ≠ gl; omega)).trans ((hs7.block bx (by omega) (by omega)).trans HV6.out))
      have HROW8 := hid (rowin_keep HROW3.out (rowin_step HROW6.out HPR.out hs7) (Or.inl (show w3.heap.size ≤ gl by omega)) 0 (.int .i64 y))
      have HLS : Hid ((l.set 0 y).length = l.length) := hid List.length_set
      rw [← HLS.out] at HST
      obtain ⟨w8, hw8⟩ : ∃ X, X = w7.setCell ⟨gl, 0, none⟩ (.int .i64 y) := ⟨_, rfl⟩
      rw [← hw8] at HST HB8 HX8 HV8 HROW8
      have HW8 := hid hw8
      clear hw8 hs7 hr7
      rw [← HLS.out]
      try rw [← HW8.out]
      go_upto_region 9 with (fail)
      try rw [← HW8.out]
      obtain ⟨r0, r1⟩ := var_cells HX8.out
      have e0 := var_thaw HX8.out 0
      have e1 := var_thaw HX8.out 1
      obtain ⟨j0, j1⟩ := var_cells HV8.out
      go_wp2
      refine bodyPost_ret (v := .tuple #[.agg #[.int .i64 s, .slice p W.length cc], .slice (some ⟨gl, 0, none⟩) (l.set 0 y).length cl]) (by simp [results, Try.results11, go_sem, r0, r1]) rfl ?_
      exact drawn_writes s W (l.set 0 y) p _ cc gl cl rfl rfl hW (by have := HLL.out; rw [List.length_set]; omega) (rowin_keep HROW3.out (rowin_keep HROW3.out HROW8.out (Or.inr HPW.out) 0 _) (Or.inr HPW.out) 1 _) HFAR.out (ownsRow_setCell_other (ownsRow_setCell_other (own_raise HST.out (by omega)) (a := ⟨w.heap.size, 0, none⟩) (fun e => by have h : gl = w.heap.size := Option.some.inj e; omega) _) (a := ⟨w.heap.size, 1, none⟩) (fun e => by have h : gl = w.heap.size := Option.some.inj e; omega) _) ((HB8.out.setCell (p := ⟨w.heap.size, 0, none⟩) (Nat.le_refl _) _).setCell (p := ⟨w.heap.size, 1, none⟩) (Nat.le_refl _) _)

theorem rd_set {w : World} {b : Nat} {q : Option Addr} {n c : Nat} (h : Rd w b q n c) {x : Nat} (hx : b ≠ x) (hq : ∀ ad, q = some ad → n = 0 ∨ ad.block ≠ x) (o : Nat) (u : Value) : Rd (w.setCell ⟨x, o, none⟩ u) b q n c := by
  have hh : ∀ k, k ≠ x → (w.setCell ⟨x, o, none⟩ u).heap[k]? = w.heap[k]? := fun k hk => heap_setCell_other w ⟨x, o, none⟩ k u hk
  have hc : ∀ ad : Addr, ad.block ≠ x → (w.setCell ⟨x, o, none⟩ u).cell? ad = w.cell? ad := fun ad hk => by
    unfold World.cell?
    rw [hh _ hk]
  have hf : ∀ ad : Addr, ad.block ≠ x → (w.setCell ⟨x, o, none⟩ u).frozen? ad = w.frozen? ad := fun ad hk => by
    unfold World.frozen?
    rw [hh _ hk]
  have hz : (w.setCell ⟨x, o, none⟩ u).heap.size = w.heap.size := by simp [World.setCell]
  obtain ⟨i, hi, h1⟩ := h.place
  refine ⟨(hc _ hx).trans h.data, ⟨i, hi, (hc _ hx).trans h1⟩, (hf _ hx).trans h.free, by rw [hz]; exact h.here, h.few, fun j hj => ?_⟩
  obtain ⟨ad, e, hne, hl, y, h0, h1, hy⟩ := h.bytes j hj
  exact ⟨ad, e, hne, by rw [hz]; exact hl, y, h0, h1, (hc _ (by rw [rd_block]; rcases hq ad e with h | h <;> omega)).trans hy⟩

/-- What stands while the cut is drawn. -/
structure PutS (w : World) (rb bx gl cl : Nat) (q : Option Addr) (n c : Nat) (s : Int) (W vs : List Int) (p : Option Addr) (cc : Nat) (w' : World) : Prop where
  res : ∃ x y, w'.heap[w.heap.size]? = some (.cells #[x, y] 26)
  box : w'.heap[bx]? = some (.cells #[.int .i64 s, .slice p W.length cc] 26)
  reader : Rd w' rb q n c
  row : RowIn w' (.slice p W.length cc) W
  vals : RowIn w' (.slice (some ⟨gl, 0, none⟩) vs.length cl) vs
  below : Below w.heap.size w w'

set_option maxRecDepth 20000 in
set_option maxHeartbeats 8000000 in
theorem d_put (w : World) (q : Option Addr) (n c : Nat) (hn : n ≤ 1048576) (hq : ∀ i, i < n → ∃ ad : Addr, q = some ad ∧ ad.block < w.heap.size ∧ ∃ x : Int, 0 ≤ x ∧ x < 256 ∧ w.cell? (ad.add i) = some (.int .u8 x)) :
    Calls Try.prog 5 #[.slice q n c] w (DrawnPut w) := by
  obtain ⟨w0, hw0⟩ : ∃ W, W = w.alloc (.cells #[.int .i64 0, .slice none 0 0] 26) := ⟨_, rfl⟩
  have hb0 : Below w.heap.size w w0 := by rw [hw0]; exact (Below.refl _ _).alloc (Nat.le_refl _) _
  have HB0 := hid hb0
  have HBX : Hid (w0.heap[w.heap.size]? = some (.cells #[.int .i64 0, .slice none 0 0] 26)) := hid (by rw [hw0]; exact heap_alloc_new _ _)
  have hz0 : w0.heap.size = w.heap.size + 1 := by rw [hw0]; simp
  have CO := hid (d_open w0 q n c hn (bytes_on hq hb0))
  have HQ0 := hid (bytes_on hq hb0)
  have HQO : Hid (∀ ad, q = some ad → n = 0 ∨ ad.block ≠ w.heap.size) := hid (fun ad e => by
    rcases Nat.eq_zero_or_pos n with h | h
    · exact Or.inl h
    · obtain ⟨ad2, e2, hl, _⟩ := hq 0 h
      rw [e] at e2
      injection e2 with e2
      subst e2
      exact Or.inr (by omega))
  have HW0 := hid hw0
  clear hw0 hb0 hq
  obtain ⟨rb, hrb⟩ : ∃ X, X = w0.heap.size := ⟨_, rfl⟩
  rw [← hrb] at CO
  have hrw : w.heap.size < rb := by omega
  have hrb0 : rb ≤ w0.heap.size := by omega
  have HRBE := hid hrb
  clear hrb
  go_enter Try.func5, Try.ntmps5
  go_wp2_with (go_at_call 10; rw [← HW0.out]; refine (CO.out).mono ?_; rintro e w1 ⟨rfl, hr1, hb1⟩; refine Hid.out ?_)
  refine hid ?_
  have HB1 := hid (HB0.out.trans (hb1.mono (by omega)))
  have HX1 := hid ((hb1.block w.heap.size (by omega)).trans HBX.out)
  have HR1 := hid hr1
  have HQ1 := hid (bytes_on HQ0.out (by rw [← HRBE.out]; exact hb1))
  have hz1 := hb1.size
  have hrb1 := hr1.here
  clear hr1 hb1
  have CW := hid (d_writes w1 q n c hn HQ1.out)
  go_wp2_with (go_at_call 11; refine (CW.out).mono ?_; unfold DrawnWrites; rintro e w2 ⟨s, W, vs, p, k, cc, gl, cl, rfl, rfl, hW, hV, hrow, hfar, hown, hb2⟩; refine Hid.out ?_)
  refine hid ?_
  obtain ⟨w3, hw3⟩ : ∃ X, X = w2.alloc (.cells #[.int .i64 s, .slice p W.length cc] 26) := ⟨_, rfl⟩
  obtain ⟨bx, hbx⟩ : ∃ X, X = w2.heap.size := ⟨_, rfl⟩
  have hb3 : Below w2.heap.size w2 w3 := by rw [hw3]; exact (Below.refl _ _).alloc (Nat.le_refl _) _
  have hz2 := hb2.size
  have hglw := (hown.lt gl rfl).1
  have HS : Hid (PutS w rb bx gl cl q n c s W vs p cc w3) := hid ⟨⟨_, _, (hb3.block w.heap.size (by omega)).trans ((hb2.block w.heap.size (by omega)).trans HX1.out)⟩, by rw [hw3, hbx]; exact heap_alloc_new _ _, (HR1.out.below hb2).below hb3, hrow.on hb3, (row_in_own2 rfl hown).on hb3, HB1.out.trans ((hb2.trans (hb3.mono hz2)).mono HB1.out.size)⟩
  have HPG := hid (show ∀ g o k2 c2, (Value.slice p W.length cc) = .slice (some ⟨g, o, none⟩) k2 c2 → g ≠ w.heap.size from fun g o k2 c2 e => by have := hfar g o k2 c2 e; omega)
  have HPR := hid (show ∀ g o k2 c2, (Value.slice p W.length cc) = .slice (some ⟨g, o, none⟩) k2 c2 → g ≠ rb from fun g o k2 c2 e => by have := hfar g o k2 c2 e; omega)
  have hglr : gl ≠ rb := by omega
  have hglne : gl ≠ w.heap.size := by omega
  have hbxw : w.heap.size < bx := by omega
  have hbxr : rb < bx := by omega
  have HGL := hid (show ∀ g o k2 c2, (Value.slice (some ⟨gl, 0, none⟩) vs.length cl) = .slice (some ⟨g, o, none⟩) k2 c2 → g ≠ w.heap.size from fun g o k2 c2 e => by injection e with e; injection e with e; injection e with e; omega)
  have HW3 := hid hw3
  clear hw3 hb3 hrow hown hb2
  go_upto_region 3 with (fail)
  rw [← hbx]
  clear hbx
  try rw [← HW3.out]
  refine wp_region_held_drew (S := fun w' => PutS w rb bx gl cl q n c s W vs p cc w') (by kernel_rfl) ⟨HS.out.res, HS.out.box, HS.out.reader.drewN 1, HS.out.row.on (Below.drew (Below.refl _ _)), HS.out.vals.on (Below.drew (Below.refl _ _)), HS.out.below.drew⟩ (fun hHeld => ?_)
  obtain ⟨wd, hwd⟩ : ∃ X, X = w3.drew := ⟨_, rfl⟩
  rw [← hwd] at hHeld ⊢
  clear hwd
  refine take_nv (i := 0) 15 (v := ?_) rfl rfl (by kernel_rfl) (by kernel_rfl) (by kernel_rfl) (fun _ _ _ h => h) (Or.inl ⟨by rfl, ?_⟩) (by assumption) ?_
  case refine_2 => ((intro w hSw); (try dsimp only at hSw); obtain ⟨d0, d1⟩ := var_cells hSw.box; go_simp; (try with_reducible rfl))
  try simp only [Act.put, List.setIfInBounds_toArray, List.set_cons_zero, List.set_cons_succ]
  refine take_nv (i := 1) 16 (v := ?_) rfl rfl (by kernel_rfl) (by kernel_rfl) (by kernel_rfl) (fun _ _ _ h => h) (Or.inl ⟨by rfl, ?_⟩) (by assumption) ?_
  case refine_2 => ((intro w hSw); (try dsimp only at hSw); go_simp; (try with_reducible rfl))
  try simp only [Act.put, List.setIfInBounds_toArray, List.set_cons_zero, List.set_cons_succ]
  refine take_nv (i := 2) 17 (v := ?_) rfl rfl (by kernel_rfl) (by kernel_rfl) (by kernel_rfl) (fun _ _ _ h => h) (Or.inl ⟨by rfl, ?_⟩) (by assumption) ?_
  case refine_2 => ((intro w hSw); (try dsimp only at hSw); go_simp; (try with_reducible rfl))
  try simp only [Act.put, List.setIfInBounds_toArray, List.set_cons_zero, List.set_cons_succ]
  refine take_nv (i := 3) 18 (v := ?_) rfl rfl (by kernel_rfl) (by kernel_rfl) (by kernel_rfl) (fun _ _ _ h => h) (Or.inl ⟨by rfl, ?_⟩) (by assumption) ?_
  case refine_2 => ((intro w hSw); (try dsimp only at hSw); go_simp; (try with_reducible rfl))
  try simp only [Act.put, List.setIfInBounds_toArray, List.set_cons_zero, List.set_cons_succ]
  refine take_nv (i := 4) 19 (v := ?_) rfl rfl (by kernel_rfl) (by kernel_rfl) (by kernel_rfl) (fun _ _ _ h => h) (Or.inl ⟨by rfl, ?_⟩) (by assumption) ?_
  case refine_2 => ((intro w hSw); (try dsimp only at hSw); go_simp; (try with_reducible rfl))
  try simp only [Act.put, List.setIfInBounds_toArray, List.set_cons_zero, List.set_cons_succ]
  refine take_nv (i := 5) 20 (v := ?_) rfl rfl (by kernel_rfl) (by kernel_rfl) (by kernel_rfl) (fun _ _ _ h => h) (Or.inl ⟨by rfl, ?_⟩) (by assumption) ?_
  case refine_2 => ((intro w hSw); (try dsimp only at hSw); go_simp; (try with_reducible rfl))
  try simp only [Act.put, List.setIfInBounds_toArray, List.set_cons_zero, List.set_cons_succ]
  refine wpAnyH_ready (rs := [6]) (by kernel_rfl) (by simp) ?_
  refine AllReadyH.cons rfl (fun K hK => ?_) AllReadyH.nil
  go_simp
  go_at_call 12
  rw [show IntKind.i64.wrap ((vs.length : Int) + 4) = (vs.length : Int) + 4 by rw [IntKind.wrap_i64]; omega]
  refine (d_off 0 ((vs.length : Int) + 4) (by omega) (by omega) (by omega) (by omega) _ _ _ _ _ hHeld.reader).mono ?_
  rintro e w4 ⟨y, rfl, hy, hr, hs⟩
  have hS4 : PutS w rb bx gl cl q n c s W vs p cc w4 := by
    obtain ⟨x0, y0, hx⟩ := hHeld.res
    exact ⟨⟨x0, y0, (hs.block w.heap.size (Array.getElem?_eq_some_iff.1 hx).1 (by omega)).trans hx⟩, (hs.block bx (Array.getElem?_eq_some_iff.1 hHeld.box).1 (by omega)).trans hHeld.box, hr, rowin_step hHeld.row HPR.out hs, rowin_step hHeld.vals (fun g o k2 c2 e => by injection e with e; injection e with e; injection e with e; omega) hs, below_of_step hHeld.below (Nat.le_of_lt hrw) hs⟩
  clear hr hs
  go_wp2_with fail
  refine hK.out _ _ hS4 (fun hHeld => ?_)
  clear hK K hS4
  try simp only [Act.put, List.setIfInBounds_toArray, List.set_cons_zero, List.set_cons_succ]
  refine wpAnyH_ready (rs := [7]) (by kernel_rfl) (by simp) ?_
  refine AllReadyH.cons rfl (fun K hK => ?_) AllReadyH.nil
  obtain ⟨x0, y0, hx⟩ := hHeld.res
  obtain ⟨r0, r1⟩ := var_cells hx
  have e0 := var_thaw hx 0
  have e1 := var_thaw hx 1
  go_simp
  have HNB := hid (nv_box_put hx (.int .i64 s) (.slice p W.length cc))
  have HS5 : Hid (PutS w rb bx gl cl q n c s W vs p cc ((w4.setCell ⟨w.heap.size, 0, none⟩ (.int .i64 s)).setCell ⟨w.heap.size, 1, none⟩ (.slice p W.length cc))) := hid ⟨⟨_, _, HNB.out⟩, (heap_setCell_other _ ⟨w.heap.size, 1, none⟩ bx _ (by show bx ≠ w.heap.size; omega)).trans ((heap_setCell_other _ ⟨w.heap.size, 0, none⟩ bx _ (by show bx ≠ w.heap.size; omega)).trans hHeld.box), rd_set (rd_set hHeld.reader (by omega) HQO.out 0 _) (by omega) HQO.out 1 _, rowin_keep hHeld.row (rowin_keep hHeld.row hHeld.row (Or.inr HPG.out) 0 _) (Or.inr HPG.out) 1 _, rowin_keep hHeld.vals (rowin_keep hHeld.vals hHeld.vals (Or.inr HGL.out) 0 _) (Or.inr HGL.out) 1 _, (hHeld.below.setCell (p := ⟨w.heap.size, 0, none⟩) (Nat.le_refl _) _).setCell (p := ⟨w.heap.size, 1, none⟩) (Nat.le_refl _) _⟩
  refine hK.out _ _ HS5.out (fun hHeld => ?_)
  clear hK K r0 r1 e0 e1 hHeld
  try simp only [Act.put, List.setIfInBounds_toArray, List.set_cons_zero, List.set_cons_succ]
  obtain ⟨wZ, hwZ⟩ : ∃ X, X = (w4.setCell ⟨w.heap.size, 0, none⟩ (.int .i64 s)).setCell ⟨w.heap.size, 1, none⟩ (.slice p W.length cc) := ⟨_, rfl⟩
  rw [← hwZ] at HS5 HNB ⊢
  clear hwZ
  have hS5 := HS5.out
  refine take_nv (i := 8) 3 (v := ?_) rfl rfl (by kernel_rfl) (by kernel_rfl) (by kernel_rfl) (fun _ _ _ h => h) (Or.inl ⟨by rfl, ?_⟩) (by assumption) ?_
  case refine_2 => ((intro w hSw); (try dsimp only at hSw); go_simp; (try with_reducible rfl))
  try simp only [Act.put, List.setIfInBounds_toArray, List.set_cons_zero, List.set_cons_succ]
  refine take_nv (i := 9) 4 (v := ?_) rfl rfl (by kernel_rfl) (by kernel_rfl) (by kernel_rfl) (fun _ _ _ h => h) (Or.inl ⟨by rfl, ?_⟩) (by assumption) ?_
  case refine_2 => ((intro w hSw); (try dsimp only at hSw); go_simp; (try with_reducible rfl))
  try simp only [Act.put, List.setIfInBounds_toArray, List.set_cons_zero, List.set_cons_succ]
  refine wpAnyH_done (by kernel_rfl) ?_ _
  obtain ⟨r0, r1⟩ := var_cells HNB.out
  clear hS5
  go_wp2
  refine bodyPost_ret (v := .tuple #[.agg #[.int .i64 s, .slice p W.length cc], .slice (some ⟨gl, 0, none⟩) vs.length cl, .int .i64 y]) (by simp [results, Try.results5, go_sem, r0, r1]) rfl ?_
  exact drawn_put s W vs y _ gl cl rfl hW (by omega) hy HS5.out.row HS5.out.vals HS5.out.below
end Go.Proofs.Ytknipcnlaaapoaa
