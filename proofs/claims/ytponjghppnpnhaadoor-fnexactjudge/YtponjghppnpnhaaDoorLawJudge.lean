/- The law on Judge, walked: it answers true. -/
import Derived.Test.YtponjghppnpnhaaDoorPackJud
import Derived.Test.YtponjghppnpnhaaDoorPackSt
import Derived.Test.YtponjghppnpnhaaDoorRowImage
import Derived.Test.YtponjghppnpnhaaDoorPackKit
import Derived.Deep.RegionHeld3
namespace Go.Proofs.YtponjghppnpnhaaDoor
open Go.RowKit
open Go.Lib (hid)

set_option maxRecDepth 20000 in
set_option maxHeartbeats 4000000 in
theorem law_judge (num : Int) (es : List RefD) (ht : ∀ e ∈ es, tameRef e) (hm : es.length ≤ maxLen) (ps : List (List UInt8)) (hs : ∀ p ∈ ps, p.length ≤ 9223372036854775807) (hn : ps.length ≤ 9223372036854775807) (layer : Int) (hl : -9223372036854775808 ≤ layer ∧ layer ≤ 9223372036854775807) (name : ByteArray) (hnm : name.size ≤ 9223372036854775807) (ver : Int) (a1 a2 : Value) (w : World) (h1 : FArg encRef 3 w a1 es) (h2 : ArgAt w a2 ps) (hT : Tab w) (hG : 0 < w.heap.size) (hP : Lib.TabIs Tryd.prog w "internal/strconv.uint64pow10" .u64 Lib.pow10Tab) :
    Calls Tryd.prog 6 #[.agg #[.int .i64 num, a1, a2], .int .i64 layer, .agg #[.string name, .int .i64 ver]] w fun e w' => e = .returned (.bool true) ∧ Below w.heap.size w w' := by
  have HFa := hid h1
  have HFb := hid h2
  have HTAB := hid hT
  have HPW := hid hP
  have HFIT := hid (rows_fit ht)
  have CZ := hid (fun W (h1 : FArg encRef 3 W a1 es) (h2 : ArgAt W a2 ps) => sz_Policy num es ps ht hm hs hn 1048576 (Nat.le_refl _) a1 a2 W h1 h2)
  obtain ⟨p0, c0, rfl, hrest⟩ := h1
  obtain ⟨q0, d0, rfl, hrest2⟩ := h2
  clear hrest hrest2 hT hP ht
  have HB0_0 : Hid (Below w.heap.size w w) := hid (Below.refl _ _)
  have hz0 : w.heap.size ≤ w.heap.size := Nat.le_refl _
  obtain ⟨w1, hw1⟩ : ∃ W, W = w.alloc (.cells #[.int .i64 num, .slice p0 es.length c0, .slice q0 ps.length d0] 46) := ⟨_, rfl⟩
  have hb1 : Below w.heap.size w w1 := by rw [hw1]; exact (Below.refl _ _).alloc (Nat.le_refl _) _
  have hz1 : w.heap.size < w1.heap.size := by rw [hw1]; simp
  have HVA_1 : Hid (w1.heap[w.heap.size]? = some (.cells #[.int .i64 num, .slice p0 es.length c0, .slice q0 ps.length d0] 46)) := hid (by rw [hw1]; exact heap_alloc_new _ _)
  have HW1 := hid hw1
  have HB0_1 := hid (HB0_0.out.trans (hb1.mono HB0_0.out.size))
  clear hw1 hb1
  obtain ⟨w2, hw2⟩ : ∃ W, W = w1.alloc (.cells #[.string name, .int .i64 ver] 48) := ⟨_, rfl⟩
  have hb2 : Below w1.heap.size w1 w2 := by rw [hw2]; exact (Below.refl _ _).alloc (Nat.le_refl _) _
  have hz2 : w1.heap.size < w2.heap.size := by rw [hw2]; simp
  have HVG_2 : Hid (w2.heap[w1.heap.size]? = some (.cells #[.string name, .int .i64 ver] 48)) := hid (by rw [hw2]; exact heap_alloc_new _ _)
  have HW2 := hid hw2
  have HB0_2 := hid (HB0_1.out.trans (hb2.mono HB0_1.out.size))
  have HVA_2 := hid ((hb2.block _ (by omega)).trans HVA_1.out)
  clear HB0_1
  clear hw2 hb2
  have hzL : w1.heap.size = w.heap.size + 1 := by rw [HW1.out]; simp
  have hzL2 : w.heap.size + 1 < w2.heap.size := by omega
  rw [hzL] at HVG_2
  clear hzL
  go_enter Tryd.func6, Tryd.ntmps6
  go_wp2_with (go_at_call 26; rw [← HW1.out]; rw [← HW2.out]; refine (CZ.out _ (HFa.out.on HB0_2.out) (HFb.out.on HB0_2.out)).mono ?_; rintro e w3 ⟨⟨r, rfl, hr⟩, hb3⟩; refine Hid.out ?_)
  refine hid ?_
  clear HVA_1
  have hz3 := hb3.size
  have HB0_3 := hid (HB0_2.out.trans (hb3.mono HB0_2.out.size))
  have HVA_3 := hid ((hb3.block _ (by omega)).trans HVA_2.out)
  have HVG_3 := hid ((hb3.block _ (by omega)).trans HVG_2.out)
  clear HB0_2 HVA_2 HVG_2
  clear hb3
  rcases hr with hr | ⟨hr, htot⟩
  · go_wp2
    go_ret
    exact ⟨rfl, HB0_3.out⟩
  · skip
    obtain ⟨zr, rfl⟩ := Int.eq_ofNat_of_zero_le hr
    have hr2 : ¬ ((zr : Nat) : Int) < 0 := by omega
    have hl1 : es.length ≤ 1048576 := by omega
    have hl2 : ps.length ≤ 1048576 := by omega
    have hl3 : ∀ p ∈ ps, p.length ≤ 1048576 := fun p hp => by have := total_mem hp; omega
    have hzr : (zr : Int) ≤ 1048576 := by omega
    have CZ2 := hid (fun W => sz_Image name ver hnm zr (by omega) hzr W)
    clear htot hr hs
    have k_G_0 := (cell_of_row _ _ 0 _ _ _ HVG_3.out).trans rfl
    have k_G_1 := (cell_of_row _ _ 1 _ _ _ HVG_3.out).trans rfl
    go_wp2_with (go_at_call 27; refine (CZ2.out _).mono ?_; rintro e w4 ⟨⟨r5, rfl, hr5⟩, hb4⟩; refine Hid.out ?_)
    refine hid ?_
    clear k_G_0 k_G_1
    have hz4 := hb4.size
    have HB0_4 := hid (HB0_3.out.trans (hb4.mono HB0_3.out.size))
    have HVA_4 := hid ((hb4.block _ (by omega)).trans HVA_3.out)
    have HVG_4 := hid ((hb4.block _ (by omega)).trans HVG_3.out)
    clear HB0_3 HVA_3 HVG_3
    clear hb4
    rcases hr5 with hr5 | ⟨hr5, ht5⟩
    · go_wp2
      go_ret
      exact ⟨rfl, HB0_4.out⟩
    · skip
      have hr6 : ¬ r5 < 0 := by omega
      have h6 : szImageN ⟨name, ver⟩ = name.size := rfl
      have hnl : name.size ≤ maxLen := by unfold maxLen; omega
      have TA := hid (fun W (h1 : FArg encRef 3 W (.slice p0 es.length c0) es) (h2 : ArgAt W (.slice q0 ps.length d0) ps) => to_Policy num es ps hl1 hl2 _ _ W h1 h2)
      have TI := hid (fun W => to_Image name ver W)
      have CS := hid (fun a b W ha hb => jud_spec num es hl1 ps hl2 hl3 layer name ver a b W ha hb)
      have CI := hid (fun a b W ha hb hT hG hP => jud_impl num es hl1 HFIT.out ps hl2 layer hl name hnl ver a b W ha hb hT hG hP)
      have CQ := hid (fun a1 b1 a2 b2 W h1 h2 i1 i2 => eq_Policy num es ps (by omega) (by omega) a1 b1 a2 b2 W h1 h2 i1 i2)
      generalize judO num es ps layer name ver = oc at *
      have hcc : (oc != oc) = false := by simp
      clear ht5 hr5 h6 hl3 hl
      have CT0 := hid (fun W (h : Below w4.heap.size w4 W) => TA.out W (HFa.out.on (HB0_4.out.trans (h.mono HB0_4.out.size))) (HFb.out.on (HB0_4.out.trans (h.mono HB0_4.out.size))))
      have k_A_0 : ∀ W : World, Below w4.heap.size w4 W → W.cell? ⟨_, 0, none⟩ = some (.int .i64 num) := fun W hW => (cell_of_row _ _ 0 _ _ _ ((hW.block _ (by omega)).trans HVA_4.out)).trans rfl
      have k_A_1 : ∀ W : World, Below w4.heap.size w4 W → W.cell? ⟨_, 1, none⟩ = some (.slice p0 es.length c0) := fun W hW => (cell_of_row _ _ 1 _ _ _ ((hW.block _ (by omega)).trans HVA_4.out)).trans rfl
      have k_A_2 : ∀ W : World, Below w4.heap.size w4 W → W.cell? ⟨_, 2, none⟩ = some (.slice q0 ps.length d0) := fun W hW => (cell_of_row _ _ 2 _ _ _ ((hW.block _ (by omega)).trans HVA_4.out)).trans rfl
      have k_G_0 : ∀ W : World, Below w4.heap.size w4 W → W.cell? ⟨_, 0, none⟩ = some (.string name) := fun W hW => (cell_of_row _ _ 0 _ _ _ ((hW.block _ (by omega)).trans HVG_4.out)).trans rfl
      have k_G_1 : ∀ W : World, Below w4.heap.size w4 W → W.cell? ⟨_, 1, none⟩ = some (.int .i64 ver) := fun W hW => (cell_of_row _ _ 1 _ _ _ ((hW.block _ (by omega)).trans HVG_4.out)).trans rfl
      go_wp2
      go_region_held3 (fun w' => Below w4.heap.size w4 w') (first | with_reducible assumption | exact Below.drew (Below.refl _ _) | exact st_below (by assumption) (by simp) (by assumption)) ((first | (go_at_call 29; refine (CT0.out _ (by assumption)).mono ?_; rintro e x1 ⟨sv1, tv1, rfl, hy1, hr1, hq1, _⟩) | (go_at_call 30; refine (TI.out _).mono ?_; rintro e x2 ⟨rfl, hy2⟩) | (go_at_call 28; refine (CS.out _ _ _ ((row_of_own encRef_len hr1).on hy2) ((texts_of hq1).on hy2)).mono ?_; rintro e x3 ⟨rfl, hy3⟩) | (fail "no arm")))
      rename_i hS
      have hb5 := hS
      clear k_A_0 k_A_1 k_A_2 k_G_0 k_G_1
      generalize x3 = w5 at *
      clear hS
      have hz5 := hb5.size
      have HB0_5 := hid (HB0_4.out.trans (hb5.mono HB0_4.out.size))
      have HVA_5 := hid ((hb5.block _ (by omega)).trans HVA_4.out)
      have HVG_5 := hid ((hb5.block _ (by omega)).trans HVG_4.out)
      clear HB0_4 HVA_4 HVG_4
      clear hb5
      clear hy1 hr1 hq1 hy2 hy3 CT0
      have k_A_0 := (cell_of_row _ _ 0 _ _ _ HVA_5.out).trans rfl
      have k_A_1 := (cell_of_row _ _ 1 _ _ _ HVA_5.out).trans rfl
      have k_A_2 := (cell_of_row _ _ 2 _ _ _ HVA_5.out).trans rfl
      go_wp2_with (go_at_call 29; refine (TA.out _ (HFa.out.on HB0_5.out) (HFb.out.on HB0_5.out)).mono ?_; rintro e w6 ⟨sv6, tv6, rfl, hb6, ho6, hq6, _⟩; refine Hid.out ?_)
      refine hid ?_
      clear k_A_0 k_A_1 k_A_2
      have hz6 := hb6.size
      have HB0_6 := hid (HB0_5.out.trans (hb6.mono HB0_5.out.size))
      have HVA_6 := hid ((hb6.block _ (by omega)).trans HVA_5.out)
      have HVG_6 := hid ((hb6.block _ (by omega)).trans HVG_5.out)
      clear HB0_5 HVA_5 HVG_5
      have HB6_6 : Hid (Below w6.heap.size w6 w6) := hid (Below.refl _ _)
      have HFx := hid (row_of_own encRef_len ho6)
      have HFy := hid (texts_of hq6)
      obtain ⟨p6, c6, rfl, _, _⟩ := row_of_own encRef_len ho6
      obtain ⟨q6, d6, rfl, _⟩ := texts_of hq6
      clear ho6 hq6
      clear hb6
      obtain ⟨w7, hw7⟩ : ∃ W, W = w6.alloc (.cells #[.int .i64 num, .slice p6 es.length c6, .slice q6 ps.length d6] 54) := ⟨_, rfl⟩
      have hb7 : Below w6.heap.size w6 w7 := by rw [hw7]; exact (Below.refl _ _).alloc (Nat.le_refl _) _
      have hz7 : w6.heap.size < w7.heap.size := by rw [hw7]; simp
      have HVX_7 : Hid (w7.heap[w6.heap.size]? = some (.cells #[.int .i64 num, .slice p6 es.length c6, .slice q6 ps.length d6] 54)) := hid (by rw [hw7]; exact heap_alloc_new _ _)
      have HW7 := hid hw7
      have HB0_7 := hid (HB0_6.out.trans (hb7.mono HB0_6.out.size))
      have HB6_7 := hid (HB6_6.out.trans (hb7.mono HB6_6.out.size))
      have HVA_7 := hid ((hb7.block _ (by omega)).trans HVA_6.out)
      have HVG_7 := hid ((hb7.block _ (by omega)).trans HVG_6.out)
      clear HB0_6 HB6_6
      clear hw7 hb7
      have CJ := hid (fun W (h : Below w7.heap.size w7 W) => CI.out _ _ W ((HFx.out.on HB6_7.out).on h) ((HFy.out.on HB6_7.out).on h) (tab_on HTAB.out hG (HB0_7.out.trans (h.mono HB0_7.out.size))) (Nat.lt_of_lt_of_le hG (HB0_7.out.trans (h.mono HB0_7.out.size)).size) (Num.tab_stays (HB0_7.out.trans (h.mono HB0_7.out.size)) HPW.out))
      have k_X_0 : ∀ W : World, Below w7.heap.size w7 W → W.cell? ⟨_, 0, none⟩ = some (.int .i64 num) := fun W hW => (cell_of_row _ _ 0 _ _ _ ((hW.block _ (by omega)).trans HVX_7.out)).trans rfl
      have k_X_1 : ∀ W : World, Below w7.heap.size w7 W → W.cell? ⟨_, 1, none⟩ = some (.slice p6 es.length c6) := fun W hW => (cell_of_row _ _ 1 _ _ _ ((hW.block _ (by omega)).trans HVX_7.out)).trans rfl
      have k_X_2 : ∀ W : World, Below w7.heap.size w7 W → W.cell? ⟨_, 2, none⟩ = some (.slice q6 ps.length d6) := fun W hW => (cell_of_row _ _ 2 _ _ _ ((hW.block _ (by omega)).trans HVX_7.out)).trans rfl
      have k_G_0 : ∀ W : World, Below w7.heap.size w7 W → W.cell? ⟨_, 0, none⟩ = some (.string name) := fun W hW => (cell_of_row _ _ 0 _ _ _ ((hW.block _ (by omega)).trans HVG_7.out)).trans rfl
      have k_G_1 : ∀ W : World, Below w7.heap.size w7 W → W.cell? ⟨_, 1, none⟩ = some (.int .i64 ver) := fun W hW => (cell_of_row _ _ 1 _ _ _ ((hW.block _ (by omega)).trans HVG_7.out)).trans rfl
      go_wp2
      rw [← HW7.out]
      go_region_held3 (fun w' => Below w7.heap.size w7 w') (first | with_reducible assumption | exact Below.drew (Below.refl _ _) | exact st_below (by assumption) (by simp) (by assumption)) ((first | (go_at_call 30; refine (TI.out _).mono ?_; rintro e x1 ⟨rfl, hy1⟩) | (go_at_call 31; refine (CJ.out _ (by assumption)).mono ?_; rintro e x2 ⟨rfl, hy2⟩) | (fail "no arm")))
      rename_i hS
      have hb8 := hS
      clear k_X_0 k_X_1 k_X_2 k_G_0 k_G_1
      generalize x2 = w8 at *
      clear hS
      have hz8 := hb8.size
      have HB0_8 := hid (HB0_7.out.trans (hb8.mono HB0_7.out.size))
      have HB6_8 := hid (HB6_7.out.trans (hb8.mono HB6_7.out.size))
      have HVA_8 := hid ((hb8.block _ (by omega)).trans HVA_7.out)
      have HVG_8 := hid ((hb8.block _ (by omega)).trans HVG_7.out)
      have HVX_8 := hid ((hb8.block _ (by omega)).trans HVX_7.out)
      clear HB0_7 HB6_7 HVA_7 HVG_7 HVX_7
      clear hb8
      clear hy1 hy2 CJ
      have CT := hid (fun W (h : Below w8.heap.size w8 W) => TA.out W (HFa.out.on (HB0_8.out.trans (h.mono HB0_8.out.size))) (HFb.out.on (HB0_8.out.trans (h.mono HB0_8.out.size))))
      have CE := hid (fun b1 b2 W (h : Below w8.heap.size w8 W) (h3 : FRow encRef 3 W b1 es) (h4 : TextsAt W b2 ps) => CQ.out _ b1 _ b2 W ((HFx.out.on HB6_8.out).on h) ((HFy.out.on HB6_8.out).on h) h3 h4)
      have k_X_0 : ∀ W : World, Below w8.heap.size w8 W → W.cell? ⟨_, 0, none⟩ = some (.int .i64 num) := fun W hW => (cell_of_row _ _ 0 _ _ _ ((hW.block _ (by omega)).trans HVX_8.out)).trans rfl
      have k_X_1 : ∀ W : World, Below w8.heap.size w8 W → W.cell? ⟨_, 1, none⟩ = some (.slice p6 es.length c6) := fun W hW => (cell_of_row _ _ 1 _ _ _ ((hW.block _ (by omega)).trans HVX_8.out)).trans rfl
      have k_X_2 : ∀ W : World, Below w8.heap.size w8 W → W.cell? ⟨_, 2, none⟩ = some (.slice q6 ps.length d6) := fun W hW => (cell_of_row _ _ 2 _ _ _ ((hW.block _ (by omega)).trans HVX_8.out)).trans rfl
      have k_A_0 : ∀ W : World, Below w8.heap.size w8 W → W.cell? ⟨_, 0, none⟩ = some (.int .i64 num) := fun W hW => (cell_of_row _ _ 0 _ _ _ ((hW.block _ (by omega)).trans HVA_8.out)).trans rfl
      have k_A_1 : ∀ W : World, Below w8.heap.size w8 W → W.cell? ⟨_, 1, none⟩ = some (.slice p0 es.length c0) := fun W hW => (cell_of_row _ _ 1 _ _ _ ((hW.block _ (by omega)).trans HVA_8.out)).trans rfl
      have k_A_2 : ∀ W : World, Below w8.heap.size w8 W → W.cell? ⟨_, 2, none⟩ = some (.slice q0 ps.length d0) := fun W hW => (cell_of_row _ _ 2 _ _ _ ((hW.block _ (by omega)).trans HVA_8.out)).trans rfl
      go_wp2
      go_region_held3 (fun w' => Below w8.heap.size w8 w') (first | with_reducible assumption | exact Below.drew (Below.refl _ _) | exact st_below (by assumption) (by simp) (by assumption)) ((first | (go_at_call 29; refine (CT.out _ (by assumption)).mono ?_; rintro e x1 ⟨sv1, tv1, rfl, hy1, hr1, hq1, _⟩) | (go_at_call 32; refine (CE.out _ _ _ (by assumption) (row_of_own encRef_len hr1) (texts_of hq1)).mono ?_; rintro e x2 ⟨rfl, hy2⟩) | (fail "no arm")))
      rename_i hS
      have hb9 := hS
      clear k_X_0 k_X_1 k_X_2 k_A_0 k_A_1 k_A_2
      generalize x2 = w9 at *
      clear hS
      have hz9 := hb9.size
      have HB0_9 := hid (HB0_8.out.trans (hb9.mono HB0_8.out.size))
      have HB6_9 := hid (HB6_8.out.trans (hb9.mono HB6_8.out.size))
      have HVA_9 := hid ((hb9.block _ (by omega)).trans HVA_8.out)
      have HVG_9 := hid ((hb9.block _ (by omega)).trans HVG_8.out)
      have HVX_9 := hid ((hb9.block _ (by omega)).trans HVX_8.out)
      clear HB0_8 HB6_8 HVA_8 HVG_8 HVX_8
      clear hb9
      clear hy1 hr1 hq1 hy2
      go_wp2
      go_ret
      exact ⟨rfl, HB0_9.out⟩
end Go.Proofs.YtponjghppnpnhaaDoor
