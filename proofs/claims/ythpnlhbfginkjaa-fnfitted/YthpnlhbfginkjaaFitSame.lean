/- A clock found again from what it shows; plain. -/
import Derived.Test.YthpnlhbfginkjaaBlendSame
import Derived.Test.YthpnlhbfginkjaaFitPlain
import Derived.Test.YthpnlhbfginkjaaFreshPlain
namespace Go.Proofs.Ythpnlhbfginkjaa
open Ieee
open Go.RowKit
open Go.Lib (hid)

theorem rung_1070 : rung 9007199254740992 (((1070 : Nat) : Int) - 1074) < 9218868437227405312 := by decide +kernel

theorem dy_sub {x y u : Nat} {m n : Int} (hu : rung 9007199254740992 ((u : Int) - 1074) < 9218868437227405312) (hx : Dy x u m) (hy : Dy y u n) (hmn : few (m - n)) : ∃ r, floatBits .sub .f64 x y = some r ∧ Dy r u (m - n) := by
  obtain ⟨r, h1, _, h3⟩ := add_key hx.1 (neg_fin hy.1)
  rw [neg_ival, hx.2, hy.2, ← Int.sub_eq_add_neg, ← Int.sub_mul, srung_dy u] at h3
  exact ⟨r, (sub_add x y).trans h1, dy_of_rung hu hmn h3⟩

/-- A product lies within the product of its bounds. -/
theorem bd {x y X Y : Int} (h0 : -X ≤ x) (h1 : x ≤ X) (h2 : -Y ≤ y) (h3 : y ≤ Y) : -(X * Y) ≤ x * y ∧ x * y ≤ X * Y := by
  have hX : (x.natAbs : Int) ≤ X := by omega
  have hY : (y.natAbs : Int) ≤ Y := by omega
  have h4 : (x.natAbs : Int) * (y.natAbs : Int) ≤ X * Y := Int.mul_le_mul hX hY (by omega) (by omega)
  rw [← Int.natCast_mul, ← Int.natAbs_mul] at h4
  omega

def sq (ts : List Int) : Int := (ts.map fun t => t * t).sum

theorem sq_put (ts : List Int) (t : Int) : sq (ts ++ [t]) = sq ts + t * t := by
  unfold sq
  rw [List.map_append, List.sum_append]
  simp

theorem sum_put' (ts : List Int) (t : Int) : (ts ++ [t]).sum = ts.sum + t := by
  rw [List.sum_append]
  simp

/-- Readings of a clock that shows a and b t sixteenths at a tick t, none of them rounded; each tick below m. -/
structure ExL (a b m : Int) (ks : List (Nat × Nat)) (ts : List Int) : Prop where
  len : ks.length = ts.length
  x : ∃ X, sxO ks = some X ∧ Dy X 1074 ts.sum
  y : ∃ Y, syO ks = some Y ∧ Dy Y 1070 (ts.length * a + b * ts.sum)
  xx : ∃ Z, psum (sqs ks) = some Z ∧ Dy Z 1074 (sq ts)
  xy : ∃ Z, psum ks = some Z ∧ Dy Z 1070 (a * ts.sum + b * sq ts)
  s0 : 0 ≤ ts.sum
  s1 : ts.sum ≤ 800 * ts.length
  q0 : 0 ≤ sq ts
  q1 : sq ts ≤ 640000 * ts.length
  top : ts.sum ≤ ts.length * m
  dev : 0 ≤ ts.length * sq ts - ts.sum * ts.sum
  far : 2 ≤ ts.length → 0 < ts.length * sq ts - ts.sum * ts.sum

theorem ExL.start (a b m : Int) : ExL a b m [] [] :=
  ⟨rfl, ⟨0, rfl, dy_zero _⟩, ⟨0, rfl, by simp; exact dy_zero _⟩, ⟨0, rfl, dy_zero _⟩, ⟨0, rfl, by show Dy 0 1070 (a * 0 + b * 0); simp; exact dy_zero _⟩, by decide, by decide, by decide, by decide, by simp, by decide, fun h => absurd h (by decide)⟩

theorem dev_step (n S Q t : Int) : (n + 1) * (Q + t * t) - (S + t) * (S + t) = (n * Q - S * S) + (Q - (t * S + t * S) + n * (t * t)) := by
  simp only [Int.mul_add, Int.add_mul, Int.one_mul]
  rw [Int.mul_comm S t]
  omega

theorem dev_far (n S Q t : Int) : n * (Q - (t * S + t * S) + n * (t * t)) = (n * Q - S * S) + (n * t - S) * (n * t - S) := by
  simp only [Int.mul_add, Int.mul_sub, Int.sub_mul]
  rw [show n * (n * (t * t)) = n * t * (n * t) by ac_rfl, show n * t * S = n * (t * S) by ac_rfl, show S * (n * t) = n * (t * S) by ac_rfl]
  omega

theorem top_ring (n a b S Q : Int) : n * (a * S + b * Q) - S * (n * a + b * S) = b * (n * Q - S * S) := by
  simp only [Int.mul_add, Int.mul_sub]
  rw [show n * (a * S) = S * (n * a) by ac_rfl, show n * (b * Q) = b * (n * Q) by ac_rfl, show S * (b * S) = b * (S * S) by ac_rfl]
  omega

theorem ExL.put {a b m m' : Int} {ks : List (Nat × Nat)} {ts : List Int} (h : ExL a b m ks ts) (ha0 : -256 ≤ a) (ha1 : a ≤ 256) (hb0 : 0 ≤ b) (hb1 : b ≤ 63) (hl : ts.length ≤ 5) {t : Int} (ht0 : 0 ≤ t) (ht1 : t ≤ 800) (hm : m < t) (hm' : t ≤ m') {y : Nat} (hy : Dy y 1070 (a + b * t)) :
    ExL a b m' (ks ++ [(floatOfInt .f64 t, y)]) (ts ++ [t]) := by
  obtain ⟨hlen, ⟨X, x1, x2⟩, ⟨Y, y1, y2⟩, ⟨Z, z1, z2⟩, ⟨V, v1, v2⟩, s0, s1, q0, q1, htop, hdev, hfar⟩ := h
  have hft := dy_ofInt t (by unfold few; omega)
  have hbt := bd (x := b) (y := t) (X := 63) (Y := 800) (by omega) (by omega) (by omega) (by omega)
  have htt := bd (x := t) (y := t) (X := 800) (Y := 800) (by omega) (by omega) (by omega) (by omega)
  have htt0 : 0 ≤ t * t := Int.mul_nonneg ht0 ht0
  have haS := bd (x := a) (y := ts.sum) (X := 256) (Y := 5000) (by omega) (by omega) (by omega) (by omega)
  have hbS := bd (x := b) (y := ts.sum) (X := 63) (Y := 5000) (by omega) (by omega) (by omega) (by omega)
  have hbQ := bd (x := b) (y := sq ts) (X := 63) (Y := 5000000) (by omega) (by omega) (by omega) (by omega)
  have hna := bd (x := (ts.length : Int)) (y := a) (X := 6) (Y := 256) (by omega) (by omega) (by omega) (by omega)
  have hat := bd (x := a) (y := t) (X := 256) (Y := 800) (by omega) (by omega) (by omega) (by omega)
  have hbtt := bd (x := b) (y := t * t) (X := 63) (Y := 640000) (by omega) (by omega) (by omega) (by omega)
  have eyt : t * (a + b * t) = a * t + b * (t * t) := by rw [Int.mul_add, Int.mul_comm t a, show t * (b * t) = b * (t * t) by ac_rfl]
  have hD : 1 ≤ ts.length → 0 < sq ts - (t * ts.sum + t * ts.sum) + (ts.length : Int) * (t * t) := by
    intro h1
    have k1 : (ts.length : Int) * (m + 1) ≤ (ts.length : Int) * t := Int.mul_le_mul_of_nonneg_left (by omega) (by omega)
    rw [Int.mul_add, Int.mul_one] at k1
    have k2 : 0 < (ts.length : Int) * t - ts.sum := by omega
    have k3 := Int.mul_pos k2 k2
    have k4 := dev_far (ts.length : Int) ts.sum (sq ts) t
    rcases Int.lt_or_le 0 (sq ts - (t * ts.sum + t * ts.sum) + (ts.length : Int) * (t * t)) with h | h
    · exact h
    · have k5 := Int.mul_le_mul_of_nonneg_left h (show (0 : Int) ≤ (ts.length : Int) by omega)
      rw [k4, Int.mul_zero] at k5
      omega
  have hE : ts.length = 0 → sq ts - (t * ts.sum + t * ts.sum) + (ts.length : Int) * (t * t) = 0 := by
    intro h0
    rw [List.eq_nil_of_length_eq_zero h0]
    show (0 : Int) - (t * 0 + t * 0) + (0 : Int) * (t * t) = 0
    simp
  obtain ⟨X2, a1, a2⟩ := dy_add rung_1074 x2 hft (by unfold few; omega)
  obtain ⟨Y2, b1, b2⟩ := dy_add rung_1070 y2 hy (by unfold few; omega)
  obtain ⟨p, m1, m2⟩ := dy_mul (u := 1074) (v := 1074) (w := 1074) rfl rung_1074 hft hft (by unfold few; omega)
  obtain ⟨Z2, c1, c2⟩ := dy_add rung_1074 z2 m2 (by unfold few; omega)
  obtain ⟨r, n1, n2⟩ := dy_mul (u := 1074) (v := 1070) (w := 1070) rfl rung_1070 hft hy (by unfold few; rw [eyt]; omega)
  obtain ⟨V2, d1, d2⟩ := dy_add rung_1070 v2 n2 (by unfold few; rw [eyt]; omega)
  have elen : (((ts ++ [t]).length : Nat) : Int) = (ts.length : Int) + 1 := by rw [List.length_append]; simp
  refine ⟨?_, ⟨X2, ?_, ?_⟩, ⟨Y2, ?_, ?_⟩, ⟨Z2, ?_, ?_⟩, ⟨V2, ?_, ?_⟩, ?_, ?_, ?_, ?_, ?_, ?_, ?_⟩
  · rw [List.length_append, List.length_append, hlen]; rfl
  · unfold sxO at *
    rw [List.map_append, List.map_singleton, sum_put, x1]
    exact a1
  · rw [sum_put']; exact a2
  · unfold syO at *
    rw [List.map_append, List.map_singleton, sum_put, y1]
    exact b1
  · rw [elen, sum_put', Int.add_mul, Int.one_mul, Int.mul_add, show (ts.length : Int) * a + a + (b * ts.sum + b * t) = (ts.length : Int) * a + b * ts.sum + (a + b * t) by omega]
    exact b2
  · unfold sqs at *
    rw [List.map_append, List.map_singleton, psum_put, z1]
    show fop .add (some Z) (floatBits .mul .f64 _ _) = _
    rw [m1]
    exact c1
  · rw [sq_put]; exact c2
  · rw [psum_put, v1]
    show fop .add (some V) (floatBits .mul .f64 _ _) = _
    rw [n1]
    exact d1
  · rw [sum_put', sq_put, Int.mul_add, Int.mul_add, show a * ts.sum + a * t + (b * sq ts + b * (t * t)) = a * ts.sum + b * sq ts + (a * t + b * (t * t)) by omega, ← eyt]
    exact d2
  · rw [sum_put']; omega
  · rw [sum_put', elen]; omega
  · rw [sq_put]; omega
  · rw [sq_put, elen]; omega
  · rw [sum_put', elen, Int.add_mul, Int.one_mul]
    have k1 : (ts.length : Int) * m ≤ (ts.length : Int) * m' := Int.mul_le_mul_of_nonneg_left (by omega) (by omega)
    omega
  · rw [elen, sq_put, sum_put', dev_step]
    rcases Nat.eq_zero_or_pos ts.length with h0 | h0
    · rw [hE h0]; omega
    · have := hD h0; omega
  · intro h2
    rw [List.length_append] at h2
    rw [elen, sq_put, sum_put', dev_step]
    have h3 : 1 ≤ ts.length := by simp at h2; omega
    have := hD h3
    omega

/-- Of six readings the clock itself is found. -/
theorem ExL.fit {a b m : Int} {ks : List (Nat × Nat)} {ts : List Int} (h : ExL a b m ks ts) (ha0 : -256 ≤ a) (ha1 : a ≤ 256) (hb0 : 0 ≤ b) (hb1 : b ≤ 63) (hl : ts.length = 6) : ∃ r s, rateO ks = some r ∧ offO ks = some s ∧ Dy r 1070 b ∧ Dy s 1070 a := by
  obtain ⟨hlen, ⟨X, x1, x2⟩, ⟨Y, y1, y2⟩, ⟨Z, z1, z2⟩, ⟨V, v1, v2⟩, s0, s1, q0, q1, _, _, hfar⟩ := h
  have hU := hfar (by omega)
  rw [hl] at y2 s1 q1 hU
  have e6 : ((6 : Nat) : Int) = 6 := rfl
  rw [e6] at y2 s1 q1 hU
  have hc : cntO ks = some (floatOfInt .f64 6) := by unfold cntO; rw [hlen, hl]; rfl
  have h6 := dy_ofInt 6 (by unfold few; omega)
  have haS := bd (x := a) (y := ts.sum) (X := 256) (Y := 5000) (by omega) (by omega) (by omega) (by omega)
  have hbS := bd (x := b) (y := ts.sum) (X := 63) (Y := 5000) (by omega) (by omega) (by omega) (by omega)
  have hbQ := bd (x := b) (y := sq ts) (X := 63) (Y := 5000000) (by omega) (by omega) (by omega) (by omega)
  have hSS := bd (x := ts.sum) (y := ts.sum) (X := 5000) (Y := 5000) (by omega) (by omega) (by omega) (by omega)
  have hSY := bd (x := ts.sum) (y := 6 * a + b * ts.sum) (X := 5000) (Y := 400000) (by omega) (by omega) (by omega) (by omega)
  have hring := top_ring 6 a b ts.sum (sq ts)
  obtain ⟨p1, f1, g1⟩ := dy_mul (u := 1074) (v := 1070) (w := 1070) rfl rung_1070 h6 v2 (by unfold few; omega)
  obtain ⟨p2, f2, g2⟩ := dy_mul (u := 1074) (v := 1070) (w := 1070) rfl rung_1070 x2 y2 (by unfold few; omega)
  obtain ⟨p3, f3, g3⟩ := dy_sub rung_1070 g1 g2 (by unfold few; omega)
  rw [hring] at g3
  obtain ⟨p4, f4, g4⟩ := dy_mul (u := 1074) (v := 1074) (w := 1074) rfl rung_1074 h6 z2 (by unfold few; omega)
  obtain ⟨p5, f5, g5⟩ := dy_mul (u := 1074) (v := 1074) (w := 1074) rfl rung_1074 x2 x2 (by unfold few; omega)
  obtain ⟨p6, f6, g6⟩ := dy_sub rung_1074 g4 g5 (by unfold few; omega)
  obtain ⟨r, f7, g7⟩ := dy_quo (u := 1070) (v := 1074) (w := 1070) (q := b) (n := 6 * sq ts - ts.sum * ts.sum) rfl rung_1070 g3 g6 (by omega) (by unfold few; omega)
  obtain ⟨p8, f8, g8⟩ := dy_mul (u := 1070) (v := 1074) (w := 1070) rfl rung_1070 g7 x2 (by unfold few; omega)
  obtain ⟨p9, f9, g9⟩ := dy_sub rung_1070 y2 g8 (by unfold few; omega)
  rw [show 6 * a + b * ts.sum - b * ts.sum = a * 6 by omega] at g9
  obtain ⟨s, f10, g10⟩ := dy_quo (u := 1070) (v := 1074) (w := 1070) (q := a) (n := 6) rfl rung_1070 g9 h6 (by omega) (by unfold few; omega)
  have ht : topO ks = some p3 := by
    unfold topO
    rw [hc, x1, y1, v1]
    show fop .sub (floatBits .mul .f64 _ _) (floatBits .mul .f64 _ _) = _
    rw [f1, f2]
    exact f3
  have hu : undO ks = some p6 := by
    unfold undO
    rw [hc, x1, z1]
    show fop .sub (floatBits .mul .f64 _ _) (floatBits .mul .f64 _ _) = _
    rw [f4, f5]
    exact f6
  have hr : rateO ks = some r := by
    unfold rateO
    rw [ht, hu]
    exact f7
  refine ⟨r, s, hr, ?_, g7, g10⟩
  unfold offO
  rw [hr, x1, y1, hc]
  show fop .quo (fop .sub (some Y) (floatBits .mul .f64 r X)) _ = _
  rw [f8]
  show fop .quo (floatBits .sub .f64 Y p8) _ = _
  rw [f9]
  exact f10
end Go.Proofs.Ythpnlhbfginkjaa
