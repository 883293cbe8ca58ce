/- The law on VerifierOk, walked: it answers true. -/
import Derived.Test.YtkpieeakiolomaaDoorPackSt
import Derived.Test.YtkpieeakiolomaaDoorPackKit
import Derived.Deep.RegionHeld3
namespace Go.Proofs.YtkpieeakiolomaaDoor
open Go.RowKit
open Go.Lib (hid)

set_option maxRecDepth 20000 in
set_option maxHeartbeats 4000000 in
theorem law_verifierok (s rt : ByteArray) (num : Int) (re : List RefD) (wd : List (List UInt8)) (tk : ByteArray) (now next : Int) (ne : List NonceD) (z0 : s.size ≤ 9223372036854775807) (z1 : rt.size ≤ 9223372036854775807) (s1 : ∀ e ∈ re, tameRef e) (m1 : re.length ≤ maxLen) (s2 : ∀ p ∈ wd, p.length ≤ 9223372036854775807) (m2 : wd.length ≤ 9223372036854775807) (z3 : tk.size ≤ 9223372036854775807) (m3 : ne.length ≤ maxLen) (a1 a2 a3 : Value) (w : World) (h1 : FArg encRef 3 w a1 re) (h2 : ArgAt w a2 wd) (h3 : FArg encNonce 2 w a3 ne) (hT : Tab w) (hG : 0 < w.heap.size) (hP : Lib.TabIs Tryd.prog w "internal/strconv.uint64pow10" .u64 Lib.pow10Tab) :
    Calls Tryd.prog 4 #[.agg #[.string s, .string rt, .int .i64 num, a1, a2, .string tk, .int .i64 now, .int .i64 next, a3]] w fun e w' => e = .returned (.bool true) ∧ Below w.heap.size w w' := by
  have HFa := hid h1
  have HFb := hid h2
  have HFc := hid h3
  have HTAB := hid hT
  have HPW := hid hP
  have HRF := hid (rows_fit s1)
  have CZ := hid (fun W x1 x2 x3 => sz_Verifier s rt num re wd tk now next ne z0 z1 s1 m1 s2 m2 z3 m3 1048576 (Nat.le_refl _) a1 a2 a3 W x1 x2 x3)
  obtain ⟨p0, c0, rfl, t1⟩ := h1
  obtain ⟨q0, d0, rfl, t2⟩ := h2
  obtain ⟨u0, v0, rfl, t3⟩ := h3
  clear t1 t2 t3 hT hP s1 s2 z3
  have HB0_0 : Hid (Below w.heap.size w w) := hid (Below.refl _ _)
  have hz0 : w.heap.size ≤ w.heap.size := Nat.le_refl _
  obtain ⟨w1, hw1⟩ : ∃ W, W = w.alloc (.cells #[.string s, .string rt, .int .i64 num, .slice p0 re.length c0, .slice q0 wd.length d0, .string tk, .int .i64 now, .int .i64 next, .slice u0 ne.length v0] 41) := ⟨_, rfl⟩
  have hb1 : Below w.heap.size w w1 := by rw [hw1]; exact (Below.refl _ _).alloc (Nat.le_refl _) _
  have hz1 : w.heap.size < w1.heap.size := by rw [hw1]; simp
  have HVA_1 : Hid (w1.heap[w.heap.size]? = some (.cells #[.string s, .string rt, .int .i64 num, .slice p0 re.length c0, .slice q0 wd.length d0, .string tk, .int .i64 now, .int .i64 next, .slice u0 ne.length v0] 41)) := hid (by rw [hw1]; exact heap_alloc_new _ _)
  have HW1 := hid hw1
  have HB0_1 := hid (HB0_0.out.trans (hb1.mono HB0_0.out.size))
  clear hw1 hb1
  go_enter Tryd.func4, Tryd.ntmps4
  go_wp2_with (go_at_call 18; rw [← HW1.out]; refine (CZ.out _ (HFa.out.on HB0_1.out) (HFb.out.on HB0_1.out) (HFc.out.on HB0_1.out)).mono ?_; rintro e w2 ⟨⟨r, rfl, hr⟩, hb2⟩; refine Hid.out ?_)
  refine hid ?_
  have hz2 := hb2.size
  have HB0_2 := hid (HB0_1.out.trans (hb2.mono HB0_1.out.size))
  have HVA_2 := hid ((hb2.block _ (by omega)).trans HVA_1.out)
  clear HB0_1 HVA_1
  clear hb2
  rcases hr with hr | ⟨hr, htot⟩
  · go_wp2
    go_ret
    exact ⟨rfl, HB0_2.out⟩
  · skip
    have hr2 : ¬ r < 0 := by omega
    have l1 : re.length ≤ 1048576 := by omega
    have l2 : wd.length ≤ 1048576 := by omega
    have l3 : ne.length ≤ 1048576 := by omega
    have lr : rt.size ≤ 1048576 := by omega
    have ls : ∀ p ∈ wd, p.length ≤ 1048576 := fun p hp => by have := total_mem hp; omega
    have TA := hid (fun W x1 x2 x3 => to_Verifier s rt num re wd tk now next ne l1 l2 l3 (.slice p0 re.length c0) (.slice q0 wd.length d0) (.slice u0 ne.length v0) W x1 x2 x3)
    have CS := hid (fun a b c W x1 x2 x3 => ver_spec s rt num re wd tk now next ne lr l1 l2 ls l3 a b c W x1 x2 x3)
    have CI := hid (fun a b c W x1 x2 x3 hT hG hP => ver_impl s rt num re wd tk now next ne l1 HRF.out l2 l3 a b c W x1 x2 x3 hT hG hP)
    have CQ := hid (fun a1 a2 a3 b1 b2 b3 W x1 x2 x3 i1 i2 i3 => eq_Verifier s rt num re wd tk now next ne (by omega) (by omega) (by omega) a1 a2 a3 b1 b2 b3 W x1 x2 x3 i1 i2 i3)
    generalize verB s rt num re wd tk now next ne = rb at *
    have hbb : (rb != rb) = false := by simp
    clear htot hr lr ls
    have k_A_0 := (cell_of_row _ _ 0 _ _ _ HVA_2.out).trans rfl
    have k_A_1 := (cell_of_row _ _ 1 _ _ _ HVA_2.out).trans rfl
    have k_A_2 := (cell_of_row _ _ 2 _ _ _ HVA_2.out).trans rfl
    have k_A_3 := (cell_of_row _ _ 3 _ _ _ HVA_2.out).trans rfl
    have k_A_4 := (cell_of_row _ _ 4 _ _ _ HVA_2.out).trans rfl
    have k_A_5 := (cell_of_row _ _ 5 _ _ _ HVA_2.out).trans rfl
    have k_A_6 := (cell_of_row _ _ 6 _ _ _ HVA_2.out).trans rfl
    have k_A_7 := (cell_of_row _ _ 7 _ _ _ HVA_2.out).trans rfl
    have k_A_8 := (cell_of_row _ _ 8 _ _ _ HVA_2.out).trans rfl
    go_wp2_with (go_at_call 20; refine (TA.out _ (HFa.out.on HB0_2.out) (HFb.out.on HB0_2.out) (HFc.out.on HB0_2.out)).mono ?_; rintro e w3 ⟨b1, b2, b3, rfl, hb3, f1, f2, f3⟩; refine Hid.out ?_)
    refine hid ?_
    clear k_A_0 k_A_1 k_A_2 k_A_3 k_A_4 k_A_5 k_A_6 k_A_7 k_A_8
    have hz3 := hb3.size
    have HB0_3 := hid (HB0_2.out.trans (hb3.mono HB0_2.out.size))
    have HVA_3 := hid ((hb3.block _ (by omega)).trans HVA_2.out)
    clear HB0_2 HVA_2
    have HB3_3 : Hid (Below w3.heap.size w3 w3) := hid (Below.refl _ _)
    have HFx1 := hid (f1)
    have HFx2 := hid (f2)
    have HFx3 := hid (f3)
    obtain ⟨p3, c3, rfl, _, _⟩ := f1
    obtain ⟨q3, d3, rfl, _⟩ := f2
    obtain ⟨u3, v3, rfl, _, _⟩ := f3
    clear hb3
    go_wp2_with (go_at_call 19; refine (CS.out _ _ _ _ (HFx1.out.on HB3_3.out) (HFx2.out.on HB3_3.out) (HFx3.out.on HB3_3.out)).mono ?_; rintro e w4 ⟨rfl, hb4⟩; refine Hid.out ?_)
    refine hid ?_
    have hz4 := hb4.size
    have HB0_4 := hid (HB0_3.out.trans (hb4.mono HB0_3.out.size))
    have HB3_4 := hid (HB3_3.out.trans (hb4.mono HB3_3.out.size))
    have HVA_4 := hid ((hb4.block _ (by omega)).trans HVA_3.out)
    clear HB0_3 HB3_3 HVA_3
    clear hb4
    have k_A_0 := (cell_of_row _ _ 0 _ _ _ HVA_4.out).trans rfl
    have k_A_1 := (cell_of_row _ _ 1 _ _ _ HVA_4.out).trans rfl
    have k_A_2 := (cell_of_row _ _ 2 _ _ _ HVA_4.out).trans rfl
    have k_A_3 := (cell_of_row _ _ 3 _ _ _ HVA_4.out).trans rfl
    have k_A_4 := (cell_of_row _ _ 4 _ _ _ HVA_4.out).trans rfl
    have k_A_5 := (cell_of_row _ _ 5 _ _ _ HVA_4.out).trans rfl
    have k_A_6 := (cell_of_row _ _ 6 _ _ _ HVA_4.out).trans rfl
    have k_A_7 := (cell_of_row _ _ 7 _ _ _ HVA_4.out).trans rfl
    have k_A_8 := (cell_of_row _ _ 8 _ _ _ HVA_4.out).trans rfl
    go_wp2_with (go_at_call 20; refine (TA.out _ (HFa.out.on HB0_4.out) (HFb.out.on HB0_4.out) (HFc.out.on HB0_4.out)).mono ?_; rintro e w5 ⟨b1, b2, b3, rfl, hb5, f1, f2, f3⟩; refine Hid.out ?_)
    refine hid ?_
    clear k_A_0 k_A_1 k_A_2 k_A_3 k_A_4 k_A_5 k_A_6 k_A_7 k_A_8
    have hz5 := hb5.size
    have HB0_5 := hid (HB0_4.out.trans (hb5.mono HB0_4.out.size))
    have HB3_5 := hid (HB3_4.out.trans (hb5.mono HB3_4.out.size))
    have HVA_5 := hid ((hb5.block _ (by omega)).trans HVA_4.out)
    clear HB0_4 HB3_4 HVA_4
    have HB5_5 : Hid (Below w5.heap.size w5 w5) := hid (Below.refl _ _)
    have HFy1 := hid (f1)
    have HFy2 := hid (f2)
    have HFy3 := hid (f3)
    obtain ⟨p5, c5, rfl, _, _⟩ := f1
    obtain ⟨q5, d5, rfl, _⟩ := f2
    obtain ⟨u5, v5, rfl, _, _⟩ := f3
    clear hb5
    obtain ⟨w6, hw6⟩ : ∃ W, W = w5.alloc (.cells #[.string s, .string rt, .int .i64 num, .slice p5 re.length c5, .slice q5 wd.length d5, .string tk, .int .i64 now, .int .i64 next, .slice u5 ne.length v5] 51) := ⟨_, rfl⟩
    have hb6 : Below w5.heap.size w5 w6 := by rw [hw6]; exact (Below.refl _ _).alloc (Nat.le_refl _) _
    have hz6 : w5.heap.size < w6.heap.size := by rw [hw6]; simp
    have HVX_6 : Hid (w6.heap[w5.heap.size]? = some (.cells #[.string s, .string rt, .int .i64 num, .slice p5 re.length c5, .slice q5 wd.length d5, .string tk, .int .i64 now, .int .i64 next, .slice u5 ne.length v5] 51)) := hid (by rw [hw6]; exact heap_alloc_new _ _)
    have HW6 := hid hw6
    have HB0_6 := hid (HB0_5.out.trans (hb6.mono HB0_5.out.size))
    have HB3_6 := hid (HB3_5.out.trans (hb6.mono HB3_5.out.size))
    have HB5_6 := hid (HB5_5.out.trans (hb6.mono HB5_5.out.size))
    have HVA_6 := hid ((hb6.block _ (by omega)).trans HVA_5.out)
    clear HB0_5 HB3_5 HB5_5
    clear hw6 hb6
    go_wp2_with (go_at_call 21; rw [← HW6.out]; refine (CI.out _ _ _ _ (HFy1.out.on HB5_6.out) (HFy2.out.on HB5_6.out) (HFy3.out.on HB5_6.out) (tab_on HTAB.out hG HB0_6.out) (Nat.lt_of_lt_of_le hG HB0_6.out.size) (Num.tab_stays HB0_6.out HPW.out)).mono ?_; rintro e w7 ⟨rfl, hb7⟩; refine Hid.out ?_)
    refine hid ?_
    clear HVA_5
    have hz7 := hb7.size
    have HB0_7 := hid (HB0_6.out.trans (hb7.mono HB0_6.out.size))
    have HB3_7 := hid (HB3_6.out.trans (hb7.mono HB3_6.out.size))
    have HB5_7 := hid (HB5_6.out.trans (hb7.mono HB5_6.out.size))
    have HVA_7 := hid ((hb7.block _ (by omega)).trans HVA_6.out)
    have HVX_7 := hid ((hb7.block _ (by omega)).trans HVX_6.out)
    clear HB0_6 HB3_6 HB5_6 HVA_6 HVX_6
    clear hb7
    have CT := hid (fun W (h : Below w7.heap.size w7 W) => TA.out W (HFa.out.on (HB0_7.out.trans (h.mono HB0_7.out.size))) (HFb.out.on (HB0_7.out.trans (h.mono HB0_7.out.size))) (HFc.out.on (HB0_7.out.trans (h.mono HB0_7.out.size))))
    have CE := hid (fun b1 b2 b3 W (h : Below w7.heap.size w7 W) (i1 : FRow encRef 3 W b1 re) (i2 : TextsAt W b2 wd) (i3 : FRow encNonce 2 W b3 ne) => CQ.out _ _ _ b1 b2 b3 W ((HFy1.out.on HB5_7.out).on h) ((HFy2.out.on HB5_7.out).on h) ((HFy3.out.on HB5_7.out).on h) i1 i2 i3)
    have k_X_0 : ∀ W : World, Below w7.heap.size w7 W → W.cell? ⟨_, 0, none⟩ = some (.string s) := fun W hW => (cell_of_row _ _ 0 _ _ _ ((hW.block _ (by omega)).trans HVX_7.out)).trans rfl
    have k_X_1 : ∀ W : World, Below w7.heap.size w7 W → W.cell? ⟨_, 1, none⟩ = some (.string rt) := fun W hW => (cell_of_row _ _ 1 _ _ _ ((hW.block _ (by omega)).trans HVX_7.out)).trans rfl
    have k_X_2 : ∀ W : World, Below w7.heap.size w7 W → W.cell? ⟨_, 2, none⟩ = some (.int .i64 num) := fun W hW => (cell_of_row _ _ 2 _ _ _ ((hW.block _ (by omega)).trans HVX_7.out)).trans rfl
    have k_X_3 : ∀ W : World, Below w7.heap.size w7 W → W.cell? ⟨_, 3, none⟩ = some (.slice p5 re.length c5) := fun W hW => (cell_of_row _ _ 3 _ _ _ ((hW.block _ (by omega)).trans HVX_7.out)).trans rfl
    have k_X_4 : ∀ W : World, Below w7.heap.size w7 W → W.cell? ⟨_, 4, none⟩ = some (.slice q5 wd.length d5) := fun W hW => (cell_of_row _ _ 4 _ _ _ ((hW.block _ (by omega)).trans HVX_7.out)).trans rfl
    have k_X_5 : ∀ W : World, Below w7.heap.size w7 W → W.cell? ⟨_, 5, none⟩ = some (.string tk) := fun W hW => (cell_of_row _ _ 5 _ _ _ ((hW.block _ (by omega)).trans HVX_7.out)).trans rfl
    have k_X_6 : ∀ W : World, Below w7.heap.size w7 W → W.cell? ⟨_, 6, none⟩ = some (.int .i64 now) := fun W hW => (cell_of_row _ _ 6 _ _ _ ((hW.block _ (by omega)).trans HVX_7.out)).trans rfl
    have k_X_7 : ∀ W : World, Below w7.heap.size w7 W → W.cell? ⟨_, 7, none⟩ = some (.int .i64 next) := fun W hW => (cell_of_row _ _ 7 _ _ _ ((hW.block _ (by omega)).trans HVX_7.out)).trans rfl
    have k_X_8 : ∀ W : World, Below w7.heap.size w7 W → W.cell? ⟨_, 8, none⟩ = some (.slice u5 ne.length v5) := fun W hW => (cell_of_row _ _ 8 _ _ _ ((hW.block _ (by omega)).trans HVX_7.out)).trans rfl
    have k_A_0 : ∀ W : World, Below w7.heap.size w7 W → W.cell? ⟨_, 0, none⟩ = some (.string s) := fun W hW => (cell_of_row _ _ 0 _ _ _ ((hW.block _ (by omega)).trans HVA_7.out)).trans rfl
    have k_A_1 : ∀ W : World, Below w7.heap.size w7 W → W.cell? ⟨_, 1, none⟩ = some (.string rt) := fun W hW => (cell_of_row _ _ 1 _ _ _ ((hW.block _ (by omega)).trans HVA_7.out)).trans rfl
    have k_A_2 : ∀ W : World, Below w7.heap.size w7 W → W.cell? ⟨_, 2, none⟩ = some (.int .i64 num) := fun W hW => (cell_of_row _ _ 2 _ _ _ ((hW.block _ (by omega)).trans HVA_7.out)).trans rfl
    have k_A_3 : ∀ W : World, Below w7.heap.size w7 W → W.cell? ⟨_, 3, none⟩ = some (.slice p0 re.length c0) := fun W hW => (cell_of_row _ _ 3 _ _ _ ((hW.block _ (by omega)).trans HVA_7.out)).trans rfl
    have k_A_4 : ∀ W : World, Below w7.heap.size w7 W → W.cell? ⟨_, 4, none⟩ = some (.slice q0 wd.length d0) := fun W hW => (cell_of_row _ _ 4 _ _ _ ((hW.block _ (by omega)).trans HVA_7.out)).trans rfl
    have k_A_5 : ∀ W : World, Below w7.heap.size w7 W → W.cell? ⟨_, 5, none⟩ = some (.string tk) := fun W hW => (cell_of_row _ _ 5 _ _ _ ((hW.block _ (by omega)).trans HVA_7.out)).trans rfl
    have k_A_6 : ∀ W : World, Below w7.heap.size w7 W → W.cell? ⟨_, 6, none⟩ = some (.int .i64 now) := fun W hW => (cell_of_row _ _ 6 _ _ _ ((hW.block _ (by omega)).trans HVA_7.out)).trans rfl
    have k_A_7 : ∀ W : World, Below w7.heap.size w7 W → W.cell? ⟨_, 7, none⟩ = some (.int .i64 next) := fun W hW => (cell_of_row _ _ 7 _ _ _ ((hW.block _ (by omega)).trans HVA_7.out)).trans rfl
    have k_A_8 : ∀ W : World, Below w7.heap.size w7 W → W.cell? ⟨_, 8, none⟩ = some (.slice u0 ne.length v0) := fun W hW => (cell_of_row _ _ 8 _ _ _ ((hW.block _ (by omega)).trans HVA_7.out)).trans rfl
    go_wp2
    go_region_held3 (fun w' => Below w7.heap.size w7 w') (first | with_reducible assumption | exact Below.drew (Below.refl _ _) | exact st_below (by assumption) (by simp) (by assumption)) ((first | (go_at_call 20; refine (CT.out _ (by assumption)).mono ?_; rintro e x1 ⟨g1, g2, g3, rfl, hy1, hr1, hr2, hr3⟩) | (go_at_call 22; refine (CE.out _ _ _ _ (by assumption) hr1 hr2 hr3).mono ?_; rintro e x2 ⟨rfl, hy2⟩) | (fail "no arm")))
    rename_i hS
    have hb8 := hS
    clear k_X_0 k_X_1 k_X_2 k_X_3 k_X_4 k_X_5 k_X_6 k_X_7 k_X_8 k_A_0 k_A_1 k_A_2 k_A_3 k_A_4 k_A_5 k_A_6 k_A_7 k_A_8
    generalize x2 = w8 at *
    clear hS
    have hz8 := hb8.size
    have HB0_8 := hid (HB0_7.out.trans (hb8.mono HB0_7.out.size))
    have HB3_8 := hid (HB3_7.out.trans (hb8.mono HB3_7.out.size))
    have HB5_8 := hid (HB5_7.out.trans (hb8.mono HB5_7.out.size))
    have HVA_8 := hid ((hb8.block _ (by omega)).trans HVA_7.out)
    have HVX_8 := hid ((hb8.block _ (by omega)).trans HVX_7.out)
    clear HB0_7 HB3_7 HB5_7 HVA_7 HVX_7
    clear hb8
    clear hy1 hr1 hr2 hr3 hy2
    go_wp2
    go_ret
    exact ⟨rfl, HB0_8.out⟩
end Go.Proofs.YtkpieeakiolomaaDoor
