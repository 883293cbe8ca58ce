/- The law on RelyingOk, walked: it answers true. -/
import Derived.Test.YtkpieeakiolomaaDoorRelBoth
import Derived.Test.YtkpieeakiolomaaDoorRelSpec
import Derived.Test.YtkpieeakiolomaaDoorPackKit
import Derived.Deep.RegionHeld3
namespace Go.Proofs.YtkpieeakiolomaaDoor
open Go.RowKit
open Go.Lib (hid)

set_option maxRecDepth 20000 in
set_option maxHeartbeats 4000000 in
theorem law_relyingok (is ask ts : List (List UInt8)) (s1 : ∀ p ∈ is, p.length ≤ 9223372036854775807) (m1 : is.length ≤ 9223372036854775807) (s2 : ∀ p ∈ ask, p.length ≤ 9223372036854775807) (m2 : ask.length ≤ 9223372036854775807) (s3 : ∀ p ∈ ts, p.length ≤ 9223372036854775807) (m3 : ts.length ≤ 9223372036854775807) (a1 a2 a3 : Value) (w : World) (h1 : ArgAt w a1 is) (h2 : ArgAt w a2 ask) (h3 : ArgAt w a3 ts) (hT : Tab w) (hG : 0 < w.heap.size) :
    Calls Tryd.prog 6 #[.agg #[a1, a2, a3]] w fun e w' => e = .returned (.bool true) ∧ Below w.heap.size w w' := by
  have HFa := hid h1
  have HFb := hid h2
  have HFc := hid h3
  have HTAB := hid hT
  have CZ := hid (fun W x1 x2 x3 => sz_Relying is ask ts s1 m1 s2 m2 s3 m3 1048576 (Nat.le_refl _) a1 a2 a3 W x1 x2 x3)
  have HS1 := hid s1
  have HS2 := hid s2
  have HS3 := hid s3
  obtain ⟨p0, c0, rfl, t1⟩ := h1
  obtain ⟨q0, d0, rfl, t2⟩ := h2
  obtain ⟨u0, v0, rfl, t3⟩ := h3
  clear t1 t2 t3 hT s1 s2 s3
  have HB0_0 : Hid (Below w.heap.size w w) := hid (Below.refl _ _)
  have hz0 : w.heap.size ≤ w.heap.size := Nat.le_refl _
  obtain ⟨w1, hw1⟩ : ∃ W, W = w.alloc (.cells #[.slice p0 is.length c0, .slice q0 ask.length d0, .slice u0 ts.length v0] 58) := ⟨_, rfl⟩
  have hb1 : Below w.heap.size w w1 := by rw [hw1]; exact (Below.refl _ _).alloc (Nat.le_refl _) _
  have hz1 : w.heap.size < w1.heap.size := by rw [hw1]; simp
  have HVA_1 : Hid (w1.heap[w.heap.size]? = some (.cells #[.slice p0 is.length c0, .slice q0 ask.length d0, .slice u0 ts.length v0] 58)) := hid (by rw [hw1]; exact heap_alloc_new _ _)
  have HW1 := hid hw1
  have HB0_1 := hid (HB0_0.out.trans (hb1.mono HB0_0.out.size))
  clear hw1 hb1
  go_enter Tryd.func6, Tryd.ntmps6
  go_wp2_with (go_at_call 25; rw [← HW1.out]; refine (CZ.out _ (HFa.out.on HB0_1.out) (HFb.out.on HB0_1.out) (HFc.out.on HB0_1.out)).mono ?_; rintro e w2 ⟨⟨r, rfl, hr⟩, hb2⟩; refine Hid.out ?_)
  refine hid ?_
  have hz2 := hb2.size
  have HB0_2 := hid (HB0_1.out.trans (hb2.mono HB0_1.out.size))
  have HVA_2 := hid ((hb2.block _ (by omega)).trans HVA_1.out)
  clear HB0_1 HVA_1
  clear hb2
  rcases hr with hr | ⟨hr, htot⟩
  · go_wp2
    go_ret
    exact ⟨rfl, HB0_2.out⟩
  · skip
    have hr2 : ¬ r < 0 := by omega
    have l1 : is.length ≤ 1048576 := by omega
    have l2 : ask.length ≤ 1048576 := by omega
    have l3 : ts.length ≤ 1048576 := by omega
    have e1 : ∀ p ∈ is, p.length ≤ 1048576 := fun p hp => by have := total_mem hp; omega
    have e2 : ∀ p ∈ ask, p.length ≤ 1048576 := fun p hp => by have := total_mem hp; omega
    have e3 : ∀ p ∈ ts, p.length ≤ 1048576 := fun p hp => by have := total_mem hp; omega
    have TA := hid (fun W x1 x2 x3 => to_Relying is ask ts l1 l2 l3 (.slice p0 is.length c0) (.slice q0 ask.length d0) (.slice u0 ts.length v0) W x1 x2 x3)
    have CS := hid (fun a b c W x1 x2 x3 => rel_spec is ask ts l1 e1 l2 e2 l3 e3 a b c W x1 x2 x3)
    have CI := hid (fun a b c W x1 x2 x3 hT hG => rel_impl is ask ts l1 HS1.out l2 HS2.out l3 HS3.out a b c W x1 x2 x3 hT hG)
    have CQ := hid (fun a1 b1 a2 b2 a3 b3 W x1 x2 x3 i1 i2 i3 => eq_Relying is ask ts (by omega) (by omega) (by omega) a1 b1 a2 b2 a3 b3 W x1 x2 x3 i1 i2 i3)
    generalize relB is ask ts = rb at *
    have hbb : (rb != rb) = false := by simp
    clear htot hr e1 e2 e3
    have k_A_0 := (cell_of_row _ _ 0 _ _ _ HVA_2.out).trans rfl
    have k_A_1 := (cell_of_row _ _ 1 _ _ _ HVA_2.out).trans rfl
    have k_A_2 := (cell_of_row _ _ 2 _ _ _ HVA_2.out).trans rfl
    go_wp2_with (go_at_call 27; refine (TA.out _ (HFa.out.on HB0_2.out) (HFb.out.on HB0_2.out) (HFc.out.on HB0_2.out)).mono ?_; rintro e w3 ⟨b1, b2, b3, rfl, hb3, f1, f2, f3, hdis⟩; refine Hid.out ?_)
    refine hid ?_
    clear k_A_0 k_A_1 k_A_2
    have hz3 := hb3.size
    have HB0_3 := hid (HB0_2.out.trans (hb3.mono HB0_2.out.size))
    have HVA_3 := hid ((hb3.block _ (by omega)).trans HVA_2.out)
    clear HB0_2 HVA_2
    have HB3_3 : Hid (Below w3.heap.size w3 w3) := hid (Below.refl _ _)
    have HFx1 := hid (texts_of f1)
    have HFx2 := hid (texts_of f2)
    have HFx3 := hid (texts_of f3)
    obtain ⟨p3, c3, rfl, _⟩ := texts_of f1
    obtain ⟨q3, d3, rfl, _⟩ := texts_of f2
    obtain ⟨u3, v3, rfl, _⟩ := texts_of f3
    clear hdis
    clear hb3
    go_wp2_with (go_at_call 26; refine (CS.out _ _ _ _ (HFx1.out.on HB3_3.out) (HFx2.out.on HB3_3.out) (HFx3.out.on HB3_3.out)).mono ?_; rintro e w4 ⟨rfl, hb4⟩; refine Hid.out ?_)
    refine hid ?_
    have hz4 := hb4.size
    have HB0_4 := hid (HB0_3.out.trans (hb4.mono HB0_3.out.size))
    have HB3_4 := hid (HB3_3.out.trans (hb4.mono HB3_3.out.size))
    have HVA_4 := hid ((hb4.block _ (by omega)).trans HVA_3.out)
    clear HB0_3 HB3_3 HVA_3
    clear hb4
    have k_A_0 := (cell_of_row _ _ 0 _ _ _ HVA_4.out).trans rfl
    have k_A_1 := (cell_of_row _ _ 1 _ _ _ HVA_4.out).trans rfl
    have k_A_2 := (cell_of_row _ _ 2 _ _ _ HVA_4.out).trans rfl
    go_wp2_with (go_at_call 27; refine (TA.out _ (HFa.out.on HB0_4.out) (HFb.out.on HB0_4.out) (HFc.out.on HB0_4.out)).mono ?_; rintro e w5 ⟨b1, b2, b3, rfl, hb5, f1, f2, f3, hdis⟩; refine Hid.out ?_)
    refine hid ?_
    clear k_A_0 k_A_1 k_A_2
    have hz5 := hb5.size
    have HB0_5 := hid (HB0_4.out.trans (hb5.mono HB0_4.out.size))
    have HB3_5 := hid (HB3_4.out.trans (hb5.mono HB3_4.out.size))
    have HVA_5 := hid ((hb5.block _ (by omega)).trans HVA_4.out)
    clear HB0_4 HB3_4 HVA_4
    have HB5_5 : Hid (Below w5.heap.size w5 w5) := hid (Below.refl _ _)
    have HFy1 := hid (texts_of f1)
    have HFy2 := hid (texts_of f2)
    have HFy3 := hid (texts_of f3)
    obtain ⟨p5, c5, rfl, _⟩ := texts_of f1
    obtain ⟨q5, d5, rfl, _⟩ := texts_of f2
    obtain ⟨u5, v5, rfl, _⟩ := texts_of f3
    clear hdis
    clear hb5
    obtain ⟨w6, hw6⟩ : ∃ W, W = w5.alloc (.cells #[.slice p5 is.length c5, .slice q5 ask.length d5, .slice u5 ts.length v5] 26) := ⟨_, rfl⟩
    have hb6 : Below w5.heap.size w5 w6 := by rw [hw6]; exact (Below.refl _ _).alloc (Nat.le_refl _) _
    have hz6 : w5.heap.size < w6.heap.size := by rw [hw6]; simp
    have HVX_6 : Hid (w6.heap[w5.heap.size]? = some (.cells #[.slice p5 is.length c5, .slice q5 ask.length d5, .slice u5 ts.length v5] 26)) := hid (by rw [hw6]; exact heap_alloc_new _ _)
    have HW6 := hid hw6
    have HB0_6 := hid (HB0_5.out.trans (hb6.mono HB0_5.out.size))
    have HB3_6 := hid (HB3_5.out.trans (hb6.mono HB3_5.out.size))
    have HB5_6 := hid (HB5_5.out.trans (hb6.mono HB5_5.out.size))
    have HVA_6 := hid ((hb6.block _ (by omega)).trans HVA_5.out)
    clear HB0_5 HB3_5 HB5_5
    clear hw6 hb6
    go_wp2_with (go_at_call 17; rw [← HW6.out]; refine (CI.out _ _ _ _ (HFy1.out.on HB5_6.out) (HFy2.out.on HB5_6.out) (HFy3.out.on HB5_6.out) (tab_on HTAB.out hG HB0_6.out) (Nat.lt_of_lt_of_le hG HB0_6.out.size)).mono ?_; rintro e w7 ⟨rfl, hb7⟩; refine Hid.out ?_)
    refine hid ?_
    clear HVA_5
    have hz7 := hb7.size
    have HB0_7 := hid (HB0_6.out.trans (hb7.mono HB0_6.out.size))
    have HB3_7 := hid (HB3_6.out.trans (hb7.mono HB3_6.out.size))
    have HB5_7 := hid (HB5_6.out.trans (hb7.mono HB5_6.out.size))
    have HVA_7 := hid ((hb7.block _ (by omega)).trans HVA_6.out)
    have HVX_7 := hid ((hb7.block _ (by omega)).trans HVX_6.out)
    clear HB0_6 HB3_6 HB5_6 HVA_6 HVX_6
    clear hb7
    have CT := hid (fun W (h : Below w7.heap.size w7 W) => TA.out W (HFa.out.on (HB0_7.out.trans (h.mono HB0_7.out.size))) (HFb.out.on (HB0_7.out.trans (h.mono HB0_7.out.size))) (HFc.out.on (HB0_7.out.trans (h.mono HB0_7.out.size))))
    have CE := hid (fun b1 b2 b3 W (h : Below w7.heap.size w7 W) (i1 : TextsAt W b1 is) (i2 : TextsAt W b2 ask) (i3 : TextsAt W b3 ts) => CQ.out _ b1 _ b2 _ b3 W ((HFy1.out.on HB5_7.out).on h) ((HFy2.out.on HB5_7.out).on h) ((HFy3.out.on HB5_7.out).on h) i1 i2 i3)
    have k_X_0 : ∀ W : World, Below w7.heap.size w7 W → W.cell? ⟨_, 0, none⟩ = some (.slice p5 is.length c5) := fun W hW => (cell_of_row _ _ 0 _ _ _ ((hW.block _ (by omega)).trans HVX_7.out)).trans rfl
    have k_X_1 : ∀ W : World, Below w7.heap.size w7 W → W.cell? ⟨_, 1, none⟩ = some (.slice q5 ask.length d5) := fun W hW => (cell_of_row _ _ 1 _ _ _ ((hW.block _ (by omega)).trans HVX_7.out)).trans rfl
    have k_X_2 : ∀ W : World, Below w7.heap.size w7 W → W.cell? ⟨_, 2, none⟩ = some (.slice u5 ts.length v5) := fun W hW => (cell_of_row _ _ 2 _ _ _ ((hW.block _ (by omega)).trans HVX_7.out)).trans rfl
    have k_A_0 : ∀ W : World, Below w7.heap.size w7 W → W.cell? ⟨_, 0, none⟩ = some (.slice p0 is.length c0) := fun W hW => (cell_of_row _ _ 0 _ _ _ ((hW.block _ (by omega)).trans HVA_7.out)).trans rfl
    have k_A_1 : ∀ W : World, Below w7.heap.size w7 W → W.cell? ⟨_, 1, none⟩ = some (.slice q0 ask.length d0) := fun W hW => (cell_of_row _ _ 1 _ _ _ ((hW.block _ (by omega)).trans HVA_7.out)).trans rfl
    have k_A_2 : ∀ W : World, Below w7.heap.size w7 W → W.cell? ⟨_, 2, none⟩ = some (.slice u0 ts.length v0) := fun W hW => (cell_of_row _ _ 2 _ _ _ ((hW.block _ (by omega)).trans HVA_7.out)).trans rfl
    go_wp2
    go_region_held3 (fun w' => Below w7.heap.size w7 w') (first | with_reducible assumption | exact Below.drew (Below.refl _ _) | exact st_below (by assumption) (by simp) (by assumption)) ((first | (go_at_call 27; refine (CT.out _ (by assumption)).mono ?_; rintro e x1 ⟨g1, g2, g3, rfl, hy1, hr1, hr2, hr3, _⟩) | (go_at_call 28; refine (CE.out _ _ _ _ (by assumption) (texts_of hr1) (texts_of hr2) (texts_of hr3)).mono ?_; rintro e x2 ⟨rfl, hy2⟩) | (fail "no arm")))
    rename_i hS
    have hb8 := hS
    clear k_X_0 k_X_1 k_X_2 k_A_0 k_A_1 k_A_2
    generalize x2 = w8 at *
    clear hS
    have hz8 := hb8.size
    have HB0_8 := hid (HB0_7.out.trans (hb8.mono HB0_7.out.size))
    have HB3_8 := hid (HB3_7.out.trans (hb8.mono HB3_7.out.size))
    have HB5_8 := hid (HB5_7.out.trans (hb8.mono HB5_7.out.size))
    have HVA_8 := hid ((hb8.block _ (by omega)).trans HVA_7.out)
    have HVX_8 := hid ((hb8.block _ (by omega)).trans HVX_7.out)
    clear HB0_7 HB3_7 HB5_7 HVA_7 HVX_7
    clear hb8
    clear hy1 hr1 hr2 hr3 hy2
    go_wp2
    go_ret
    exact ⟨rfl, HB0_8.out⟩
end Go.Proofs.YtkpieeakiolomaaDoor
