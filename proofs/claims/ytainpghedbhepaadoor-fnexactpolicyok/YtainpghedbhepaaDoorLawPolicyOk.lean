/- The law on PolicyOk, walked: it answers true. -/
import Derived.Test.YtainpghedbhepaaDoorPackPol
import Derived.Test.YtainpghedbhepaaDoorStPolicy
import Derived.Test.YtainpghedbhepaaDoorLawKit
import Derived.Deep.RegionHeld3
namespace Go.Proofs.YtainpghedbhepaaDoor
open Go.RowKit
open Go.Lib (hid)

theorem pol_total {ps : List (List UInt8)} {p : List UInt8} (h : p ∈ ps) : p.length ≤ total ps := by
  unfold total
  induction ps with
  | nil => cases h
  | cons x r ih =>
    rw [List.map_cons, List.sum_cons]
    rcases List.mem_cons.1 h with rfl | h
    · omega
    · have := ih h; omega

set_option maxRecDepth 20000 in
set_option maxHeartbeats 4000000 in
theorem law_policyok (num : Int) (es : List RefD) (ht : ∀ e ∈ es, tameRef e) (hm : es.length ≤ maxLen) (ps : List (List UInt8)) (hs : ∀ p ∈ ps, p.length ≤ 9223372036854775807) (hn : ps.length ≤ 9223372036854775807) (a1 a2 : Value) (w : World) (h1 : FArg encRef 3 w a1 es) (h2 : ArgAt w a2 ps) (hT : Tab w) (hG : 0 < w.heap.size) (hP : Lib.TabIs Tryd.prog w "internal/strconv.uint64pow10" .u64 Lib.pow10Tab) :
    Calls Tryd.prog 3 #[.agg #[.int .i64 num, a1, a2]] w fun e w' => e = .returned (.bool true) ∧ Below w.heap.size w w' := by
  have HFa := hid h1
  have HFb := hid h2
  have HTAB := hid hT
  have HPW := hid hP
  have HFIT := hid (rows_fit ht)
  have CZ := hid (fun W (h1 : FArg encRef 3 W a1 es) (h2 : ArgAt W a2 ps) => sz_Policy num es ps ht hm hs hn 1048576 (Nat.le_refl _) a1 a2 W h1 h2)
  obtain ⟨p0, c0, rfl, hrest⟩ := h1
  obtain ⟨q0, d0, rfl, hrest2⟩ := h2
  clear hrest hrest2 hT hP ht
  have HB0_0 : Hid (Below w.heap.size w w) := hid (Below.refl _ _)
  have hz0 : w.heap.size ≤ w.heap.size := Nat.le_refl _
  obtain ⟨w1, hw1⟩ : ∃ W, W = w.alloc (.cells #[.int .i64 num, .slice p0 es.length c0, .slice q0 ps.length d0] 25) := ⟨_, rfl⟩
  have hb1 : Below w.heap.size w w1 := by rw [hw1]; exact (Below.refl _ _).alloc (Nat.le_refl _) _
  have hz1 : w.heap.size < w1.heap.size := by rw [hw1]; simp
  have HVA_1 : Hid (w1.heap[w.heap.size]? = some (.cells #[.int .i64 num, .slice p0 es.length c0, .slice q0 ps.length d0] 25)) := hid (by rw [hw1]; exact heap_alloc_new _ _)
  have HW1 := hid hw1
  have HB0_1 := hid (HB0_0.out.trans (hb1.mono HB0_0.out.size))
  clear hw1 hb1
  go_enter Tryd.func3, Tryd.ntmps3
  go_wp2_with (go_at_call 9; rw [← HW1.out]; refine (CZ.out _ (HFa.out.on HB0_1.out) (HFb.out.on HB0_1.out)).mono ?_; rintro e w2 ⟨⟨r, rfl, hr⟩, hb2⟩; refine Hid.out ?_)
  refine hid ?_
  have hz2 := hb2.size
  have HB0_2 := hid (HB0_1.out.trans (hb2.mono HB0_1.out.size))
  have HVA_2 := hid ((hb2.block _ (by omega)).trans HVA_1.out)
  clear HB0_1 HVA_1
  clear hb2
  rcases hr with hr | ⟨hr, htot⟩
  · go_wp2
    go_ret
    exact ⟨rfl, HB0_2.out⟩
  · skip
    have hr2 : ¬ r < 0 := by omega
    have hl1 : es.length ≤ 1048576 := by omega
    have hl2 : ps.length ≤ 1048576 := by omega
    have hl3 : ∀ p ∈ ps, p.length ≤ 1048576 := fun p hp => by have := pol_total hp; omega
    have TA := hid (fun W (h1 : FArg encRef 3 W (.slice p0 es.length c0) es) (h2 : ArgAt W (.slice q0 ps.length d0) ps) => to_Policy num es ps hl1 hl2 _ _ W h1 h2)
    have CS := hid (fun a b W ha hb => pol_spec num es hl1 ps hl2 hl3 a b W ha hb)
    have CI := hid (fun a b W ha hb hT hG hP => pol_impl num es hl1 HFIT.out ps hl2 a b W ha hb hT hG hP)
    have CQ := hid (fun a1 b1 a2 b2 W h1 h2 i1 i2 => eq_Policy num es ps (by omega) (by omega) a1 b1 a2 b2 W h1 h2 i1 i2)
    generalize polB num es ps = rb at *
    have hbb : (rb != rb) = false := by simp
    clear htot hr
    have k_A_0 := (cell_of_row _ _ 0 _ _ _ HVA_2.out).trans rfl
    have k_A_1 := (cell_of_row _ _ 1 _ _ _ HVA_2.out).trans rfl
    have k_A_2 := (cell_of_row _ _ 2 _ _ _ HVA_2.out).trans rfl
    go_wp2_with (go_at_call 11; refine (TA.out _ (HFa.out.on HB0_2.out) (HFb.out.on HB0_2.out)).mono ?_; rintro e w3 ⟨sv3, tv3, rfl, hb3, ho3, hq3, _⟩; refine Hid.out ?_)
    refine hid ?_
    clear k_A_0 k_A_1 k_A_2
    have hz3 := hb3.size
    have HB0_3 := hid (HB0_2.out.trans (hb3.mono HB0_2.out.size))
    have HVA_3 := hid ((hb3.block _ (by omega)).trans HVA_2.out)
    clear HB0_2 HVA_2
    have HB3_3 : Hid (Below w3.heap.size w3 w3) := hid (Below.refl _ _)
    have HFu := hid (row_of_own encRef_len ho3)
    have HFv := hid (texts_of hq3)
    obtain ⟨p3, c3, rfl, _, _⟩ := row_of_own encRef_len ho3
    obtain ⟨q3, d3, rfl, _⟩ := texts_of hq3
    clear ho3 hq3
    clear hb3
    go_wp2_with (go_at_call 10; refine (CS.out _ _ _ (HFu.out.on HB3_3.out) (HFv.out.on HB3_3.out)).mono ?_; rintro e w4 ⟨rfl, hb4⟩; refine Hid.out ?_)
    refine hid ?_
    have hz4 := hb4.size
    have HB0_4 := hid (HB0_3.out.trans (hb4.mono HB0_3.out.size))
    have HB3_4 := hid (HB3_3.out.trans (hb4.mono HB3_3.out.size))
    have HVA_4 := hid ((hb4.block _ (by omega)).trans HVA_3.out)
    clear HB0_3 HB3_3 HVA_3
    clear hb4
    have k_A_0 := (cell_of_row _ _ 0 _ _ _ HVA_4.out).trans rfl
    have k_A_1 := (cell_of_row _ _ 1 _ _ _ HVA_4.out).trans rfl
    have k_A_2 := (cell_of_row _ _ 2 _ _ _ HVA_4.out).trans rfl
    go_wp2_with (go_at_call 11; refine (TA.out _ (HFa.out.on HB0_4.out) (HFb.out.on HB0_4.out)).mono ?_; rintro e w5 ⟨sv5, tv5, rfl, hb5, ho5, hq5, _⟩; refine Hid.out ?_)
    refine hid ?_
    clear k_A_0 k_A_1 k_A_2
    have hz5 := hb5.size
    have HB0_5 := hid (HB0_4.out.trans (hb5.mono HB0_4.out.size))
    have HB3_5 := hid (HB3_4.out.trans (hb5.mono HB3_4.out.size))
    have HVA_5 := hid ((hb5.block _ (by omega)).trans HVA_4.out)
    clear HB0_4 HB3_4 HVA_4
    have HB5_5 : Hid (Below w5.heap.size w5 w5) := hid (Below.refl _ _)
    have HFx := hid (row_of_own encRef_len ho5)
    have HFy := hid (texts_of hq5)
    obtain ⟨p5, c5, rfl, _, _⟩ := row_of_own encRef_len ho5
    obtain ⟨q5, d5, rfl, _⟩ := texts_of hq5
    clear ho5 hq5
    clear hb5
    obtain ⟨w6, hw6⟩ : ∃ W, W = w5.alloc (.cells #[.int .i64 num, .slice p5 es.length c5, .slice q5 ps.length d5] 30) := ⟨_, rfl⟩
    have hb6 : Below w5.heap.size w5 w6 := by rw [hw6]; exact (Below.refl _ _).alloc (Nat.le_refl _) _
    have hz6 : w5.heap.size < w6.heap.size := by rw [hw6]; simp
    have HVX_6 : Hid (w6.heap[w5.heap.size]? = some (.cells #[.int .i64 num, .slice p5 es.length c5, .slice q5 ps.length d5] 30)) := hid (by rw [hw6]; exact heap_alloc_new _ _)
    have HW6 := hid hw6
    have HB0_6 := hid (HB0_5.out.trans (hb6.mono HB0_5.out.size))
    have HB3_6 := hid (HB3_5.out.trans (hb6.mono HB3_5.out.size))
    have HB5_6 := hid (HB5_5.out.trans (hb6.mono HB5_5.out.size))
    have HVA_6 := hid ((hb6.block _ (by omega)).trans HVA_5.out)
    clear HB0_5 HB3_5 HB5_5
    clear hw6 hb6
    go_wp2_with (go_at_call 12; rw [← HW6.out]; refine (CI.out _ _ _ (HFx.out.on HB5_6.out) (HFy.out.on HB5_6.out) (tab_on HTAB.out hG HB0_6.out) (Nat.lt_of_lt_of_le hG HB0_6.out.size) (Num.tab_stays HB0_6.out HPW.out)).mono ?_; rintro e w7 ⟨rfl, hb7⟩; refine Hid.out ?_)
    refine hid ?_
    clear HVA_5
    have hz7 := hb7.size
    have HB0_7 := hid (HB0_6.out.trans (hb7.mono HB0_6.out.size))
    have HB3_7 := hid (HB3_6.out.trans (hb7.mono HB3_6.out.size))
    have HB5_7 := hid (HB5_6.out.trans (hb7.mono HB5_6.out.size))
    have HVA_7 := hid ((hb7.block _ (by omega)).trans HVA_6.out)
    have HVX_7 := hid ((hb7.block _ (by omega)).trans HVX_6.out)
    clear HB0_6 HB3_6 HB5_6 HVA_6 HVX_6
    clear hb7
    have CT := hid (fun W (h : Below w7.heap.size w7 W) => TA.out W (HFa.out.on (HB0_7.out.trans (h.mono HB0_7.out.size))) (HFb.out.on (HB0_7.out.trans (h.mono HB0_7.out.size))))
    have CE := hid (fun b1 b2 W (h : Below w7.heap.size w7 W) (h3 : FRow encRef 3 W b1 es) (h4 : TextsAt W b2 ps) => CQ.out _ b1 _ b2 W ((HFx.out.on HB5_7.out).on h) ((HFy.out.on HB5_7.out).on h) h3 h4)
    have k_X_0 : ∀ W : World, Below w7.heap.size w7 W → W.cell? ⟨_, 0, none⟩ = some (.int .i64 num) := fun W hW => (cell_of_row _ _ 0 _ _ _ ((hW.block _ (by omega)).trans HVX_7.out)).trans rfl
    have k_X_1 : ∀ W : World, Below w7.heap.size w7 W → W.cell? ⟨_, 1, none⟩ = some (.slice p5 es.length c5) := fun W hW => (cell_of_row _ _ 1 _ _ _ ((hW.block _ (by omega)).trans HVX_7.out)).trans rfl
    have k_X_2 : ∀ W : World, Below w7.heap.size w7 W → W.cell? ⟨_, 2, none⟩ = some (.slice q5 ps.length d5) := fun W hW => (cell_of_row _ _ 2 _ _ _ ((hW.block _ (by omega)).trans HVX_7.out)).trans rfl
    have k_A_0 : ∀ W : World, Below w7.heap.size w7 W → W.cell? ⟨_, 0, none⟩ = some (.int .i64 num) := fun W hW => (cell_of_row _ _ 0 _ _ _ ((hW.block _ (by omega)).trans HVA_7.out)).trans rfl
    have k_A_1 : ∀ W : World, Below w7.heap.size w7 W → W.cell? ⟨_, 1, none⟩ = some (.slice p0 es.length c0) := fun W hW => (cell_of_row _ _ 1 _ _ _ ((hW.block _ (by omega)).trans HVA_7.out)).trans rfl
    have k_A_2 : ∀ W : World, Below w7.heap.size w7 W → W.cell? ⟨_, 2, none⟩ = some (.slice q0 ps.length d0) := fun W hW => (cell_of_row _ _ 2 _ _ _ ((hW.block _ (by omega)).trans HVA_7.out)).trans rfl
    go_wp2
    go_region_held3 (fun w' => Below w7.heap.size w7 w') (first | with_reducible assumption | exact Below.drew (Below.refl _ _) | exact st_below (by assumption) (by simp) (by assumption)) ((first | (go_at_call 11; refine (CT.out _ (by assumption)).mono ?_; rintro e x1 ⟨sv1, tv1, rfl, hy1, hr1, hq1, _⟩) | (go_at_call 13; refine (CE.out _ _ _ (by assumption) (row_of_own encRef_len hr1) (texts_of hq1)).mono ?_; rintro e x2 ⟨rfl, hy2⟩) | (fail "no arm")))
    rename_i hS
    have hb8 := hS
    clear k_X_0 k_X_1 k_X_2 k_A_0 k_A_1 k_A_2
    generalize x2 = w8 at *
    clear hS
    have hz8 := hb8.size
    have HB0_8 := hid (HB0_7.out.trans (hb8.mono HB0_7.out.size))
    have HB3_8 := hid (HB3_7.out.trans (hb8.mono HB3_7.out.size))
    have HB5_8 := hid (HB5_7.out.trans (hb8.mono HB5_7.out.size))
    have HVA_8 := hid ((hb8.block _ (by omega)).trans HVA_7.out)
    have HVX_8 := hid ((hb8.block _ (by omega)).trans HVX_7.out)
    clear HB0_7 HB3_7 HB5_7 HVA_7 HVX_7
    clear hb8
    clear hy1 hr1 hq1 hy2
    go_wp2
    go_ret
    exact ⟨rfl, HB0_8.out⟩
end Go.Proofs.YtainpghedbhepaaDoor
