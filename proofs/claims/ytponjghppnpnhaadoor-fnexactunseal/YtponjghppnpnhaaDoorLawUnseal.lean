/- The law on Unseal, walked: it answers true. -/
import Derived.Test.YtponjghppnpnhaaDoorPackUns
import Derived.Test.YtponjghppnpnhaaDoorPackKit
import Derived.Deep.RegionHeld3
namespace Go.Proofs.YtponjghppnpnhaaDoor
open Go.RowKit
open Go.Lib (hid)

set_option maxRecDepth 20000 in
set_option maxHeartbeats 4000000 in
theorem law_unseal (es : List SealD) (st y0 y1 : Int) (y2 y3 : ByteArray) (hs : ∀ e ∈ es, tameSeal e) (hm : es.length ≤ maxLen) (hq : tameSeal ⟨y0, y1, y2, y3⟩) (ps : List (List UInt8)) (hps : ∀ p ∈ ps, p.length ≤ 9223372036854775807) (hpn : ps.length ≤ 9223372036854775807) (slot : Int) (a1 a2 : Value) (w : World) (h1 : FArg encSeal 4 w a1 es) (h2 : ArgAt w a2 ps) (hT : Tab w) (hG : 0 < w.heap.size) (hP : Lib.TabIs Tryd.prog w "internal/strconv.uint64pow10" .u64 Lib.pow10Tab) :
    Calls Tryd.prog 9 #[.agg #[a1, .int .i64 st, .int .i64 y0, .int .i64 y1, .string y2, .string y3], a2, .int .i64 slot] w fun e w' => e = .returned (.bool true) ∧ Below w.heap.size w w' := by
  have HFa := hid h1
  have HFr := hid h2
  have HTAB := hid hT
  have HPW := hid hP
  have CZ := hid (fun W (h1 : FArg encSeal 4 W a1 es) => sz_Vault es st y0 y1 y2 y3 hs hm hq.1 hq.2.1 1048576 (Nat.le_refl _) a1 W h1)
  obtain ⟨p0, c0, rfl, hrest⟩ := h1
  obtain ⟨q0, d0, rfl, hrest2⟩ := h2
  clear hrest hrest2 hT hP hs hq
  have HB0_0 : Hid (Below w.heap.size w w) := hid (Below.refl _ _)
  have hz0 : w.heap.size ≤ w.heap.size := Nat.le_refl _
  obtain ⟨w1, hw1⟩ : ∃ W, W = w.alloc (.cells #[.slice p0 es.length c0, .int .i64 st, .int .i64 y0, .int .i64 y1, .string y2, .string y3] 64) := ⟨_, rfl⟩
  have hb1 : Below w.heap.size w w1 := by rw [hw1]; exact (Below.refl _ _).alloc (Nat.le_refl _) _
  have hz1 : w.heap.size < w1.heap.size := by rw [hw1]; simp
  have HVA_1 : Hid (w1.heap[w.heap.size]? = some (.cells #[.slice p0 es.length c0, .int .i64 st, .int .i64 y0, .int .i64 y1, .string y2, .string y3] 64)) := hid (by rw [hw1]; exact heap_alloc_new _ _)
  have HW1 := hid hw1
  have HB0_1 := hid (HB0_0.out.trans (hb1.mono HB0_0.out.size))
  clear hw1 hb1
  go_enter Tryd.func9, Tryd.ntmps9
  go_wp2_with (go_at_call 33; rw [← HW1.out]; refine (CZ.out _ (HFa.out.on HB0_1.out)).mono ?_; rintro e w2 ⟨⟨r, rfl, hr⟩, hb2⟩; refine Hid.out ?_)
  refine hid ?_
  have hz2 := hb2.size
  have HB0_2 := hid (HB0_1.out.trans (hb2.mono HB0_1.out.size))
  have HVA_2 := hid ((hb2.block _ (by omega)).trans HVA_1.out)
  clear HB0_1 HVA_1
  clear hb2
  rcases hr with hr | ⟨hr, htot⟩
  · go_wp2
    go_ret
    exact ⟨rfl, HB0_2.out⟩
  · skip
    obtain ⟨zr, rfl⟩ := Int.eq_ofNat_of_zero_le hr
    have hr2 : ¬ ((zr : Nat) : Int) < 0 := by omega
    have hl1 : es.length ≤ 1048576 := by omega
    have hsm : ∀ e ∈ es, e.x2.size ≤ 1048576 ∧ e.x3.size ≤ 1048576 := fun e he => by
      have h := used_mem (sz := szSealN) he
      have h5 : szSealN e = e.x2.size + e.x3.size := rfl
      omega
    have h6 : szSealN ⟨y0, y1, y2, y3⟩ = y2.size + y3.size := rfl
    have hq2 : y2.size ≤ 1048576 := by omega
    have hq3 : y3.size ≤ 1048576 := by omega
    have hzr : zr ≤ 1048576 := by omega
    have CZ2 := hid (fun W (h : ArgAt W (.slice q0 ps.length d0) ps) => sz_strs ps hps hpn zr hzr _ W h)
    have HSM := hid hsm
    clear htot hr h6 hsm hps
    go_wp2_with (go_at_call 12; refine (CZ2.out _ (HFr.out.on HB0_2.out)).mono ?_; rintro e w3 ⟨⟨r5, rfl, hr5⟩, hb3⟩; refine Hid.out ?_)
    refine hid ?_
    have hz3 := hb3.size
    have HB0_3 := hid (HB0_2.out.trans (hb3.mono HB0_2.out.size))
    have HVA_3 := hid ((hb3.block _ (by omega)).trans HVA_2.out)
    clear HB0_2 HVA_2
    clear hb3
    rcases hr5 with hr5 | ⟨hr5, ht5⟩
    · go_wp2
      go_ret
      exact ⟨rfl, HB0_3.out⟩
    · skip
      have hr6 : ¬ r5 < 0 := by omega
      have hn1 : ps.length ≤ 1048576 := by omega
      have hs1 : ∀ p ∈ ps, p.length ≤ 1048576 := fun p hp => by have := total_mem hp; omega
      have TA := hid (fun W (h1 : FArg encSeal 4 W (.slice p0 es.length c0) es) => to_Vault es st y0 y1 y2 y3 hl1 _ W h1)
      have TR := hid (fun W (h1 : ArgAt W (.slice q0 ps.length d0) ps) => to_calls ps hn1 _ W h1)
      have CS := hid (fun a b W ha hb => uns_spec es hl1 HSM.out st y0 y1 y2 y3 hq2 hq3 ps hs1 hn1 slot a b W ha hb)
      have CI := hid (fun a b W ha hb hT hG hP => uns_impl es hl1 st y0 y1 y2 y3 ps hn1 slot a b W ha hb hT hG hP)
      have CQ := hid (fun a1 b1 W h1 h2 => eq_Vault es (by omega) st y0 y1 y2 y3 a1 b1 W h1 h2)
      have CQR := hid (fun a1 b1 W h1 h2 => eq_same ps (by omega) a1 b1 W h1 h2)
      generalize (unsO es st ⟨y0, y1, y2, y3⟩ ps slot).1 = ot at *
      generalize (unsO es st ⟨y0, y1, y2, y3⟩ ps slot).2 = oc at *
      have hyy : (ot.toList == ot.toList) = true := by simp
      have hcc : (oc != oc) = false := by simp
      clear ht5 hr5 hq2 hq3 hs1
      have k_A_0 := (cell_of_row _ _ 0 _ _ _ HVA_3.out).trans rfl
      have k_A_1 := (cell_of_row _ _ 1 _ _ _ HVA_3.out).trans rfl
      have k_A_2 := (cell_of_row _ _ 2 _ _ _ HVA_3.out).trans rfl
      have k_A_3 := (cell_of_row _ _ 3 _ _ _ HVA_3.out).trans rfl
      have k_A_4 := (cell_of_row _ _ 4 _ _ _ HVA_3.out).trans rfl
      have k_A_5 := (cell_of_row _ _ 5 _ _ _ HVA_3.out).trans rfl
      go_wp2_with (go_at_call 35; refine (TA.out _ (HFa.out.on HB0_3.out)).mono ?_; rintro e w4 ⟨sv4, rfl, hb4, ho4⟩; refine Hid.out ?_)
      refine hid ?_
      clear k_A_0 k_A_1 k_A_2 k_A_3 k_A_4 k_A_5
      have hz4 := hb4.size
      have HB0_4 := hid (HB0_3.out.trans (hb4.mono HB0_3.out.size))
      have HVA_4 := hid ((hb4.block _ (by omega)).trans HVA_3.out)
      clear HB0_3 HVA_3
      have HB4_4 : Hid (Below w4.heap.size w4 w4) := hid (Below.refl _ _)
      have HFu := hid (row_of_own encSeal_len ho4)
      obtain ⟨p4, c4, rfl, _, _⟩ := row_of_own encSeal_len ho4
      clear ho4
      clear hb4
      go_wp2_with (go_at_call 14; refine (TR.out _ (HFr.out.on HB0_4.out)).mono ?_; rintro e w5 ⟨sv5, rfl, hb5, ho5⟩; refine Hid.out ?_)
      refine hid ?_
      have hz5 := hb5.size
      have HB0_5 := hid (HB0_4.out.trans (hb5.mono HB0_4.out.size))
      have HB4_5 := hid (HB4_4.out.trans (hb5.mono HB4_4.out.size))
      have HVA_5 := hid ((hb5.block _ (by omega)).trans HVA_4.out)
      clear HB0_4 HB4_4 HVA_4
      have HB5_5 : Hid (Below w5.heap.size w5 w5) := hid (Below.refl _ _)
      have HFv := hid (texts_of ho5)
      obtain ⟨p5, c5, rfl, _⟩ := texts_of ho5
      clear ho5
      clear hb5
      go_wp2_with (go_at_call 44; refine (CS.out _ _ _ (HFu.out.on HB4_5.out) (HFv.out.on HB5_5.out)).mono ?_; rintro e w6 ⟨rfl, hb6⟩; refine Hid.out ?_)
      refine hid ?_
      have hz6 := hb6.size
      have HB0_6 := hid (HB0_5.out.trans (hb6.mono HB0_5.out.size))
      have HB4_6 := hid (HB4_5.out.trans (hb6.mono HB4_5.out.size))
      have HB5_6 := hid (HB5_5.out.trans (hb6.mono HB5_5.out.size))
      have HVA_6 := hid ((hb6.block _ (by omega)).trans HVA_5.out)
      clear HB0_5 HB4_5 HB5_5 HVA_5
      clear hb6
      have k_A_0 := (cell_of_row _ _ 0 _ _ _ HVA_6.out).trans rfl
      have k_A_1 := (cell_of_row _ _ 1 _ _ _ HVA_6.out).trans rfl
      have k_A_2 := (cell_of_row _ _ 2 _ _ _ HVA_6.out).trans rfl
      have k_A_3 := (cell_of_row _ _ 3 _ _ _ HVA_6.out).trans rfl
      have k_A_4 := (cell_of_row _ _ 4 _ _ _ HVA_6.out).trans rfl
      have k_A_5 := (cell_of_row _ _ 5 _ _ _ HVA_6.out).trans rfl
      go_wp2_with (go_at_call 35; refine (TA.out _ (HFa.out.on HB0_6.out)).mono ?_; rintro e w7 ⟨sv7, rfl, hb7, ho7⟩; refine Hid.out ?_)
      refine hid ?_
      clear k_A_0 k_A_1 k_A_2 k_A_3 k_A_4 k_A_5
      have hz7 := hb7.size
      have HB0_7 := hid (HB0_6.out.trans (hb7.mono HB0_6.out.size))
      have HB4_7 := hid (HB4_6.out.trans (hb7.mono HB4_6.out.size))
      have HB5_7 := hid (HB5_6.out.trans (hb7.mono HB5_6.out.size))
      have HVA_7 := hid ((hb7.block _ (by omega)).trans HVA_6.out)
      clear HB0_6 HB4_6 HB5_6 HVA_6
      have HB7_7 : Hid (Below w7.heap.size w7 w7) := hid (Below.refl _ _)
      have HFx := hid (row_of_own encSeal_len ho7)
      obtain ⟨p7, c7, rfl, _, _⟩ := row_of_own encSeal_len ho7
      clear ho7
      clear hb7
      obtain ⟨w8, hw8⟩ : ∃ W, W = w7.alloc (.cells #[.slice p7 es.length c7, .int .i64 st, .int .i64 y0, .int .i64 y1, .string y2, .string y3] 70) := ⟨_, rfl⟩
      have hb8 : Below w7.heap.size w7 w8 := by rw [hw8]; exact (Below.refl _ _).alloc (Nat.le_refl _) _
      have hz8 : w7.heap.size < w8.heap.size := by rw [hw8]; simp
      have HVX_8 : Hid (w8.heap[w7.heap.size]? = some (.cells #[.slice p7 es.length c7, .int .i64 st, .int .i64 y0, .int .i64 y1, .string y2, .string y3] 70)) := hid (by rw [hw8]; exact heap_alloc_new _ _)
      have HW8 := hid hw8
      have HB0_8 := hid (HB0_7.out.trans (hb8.mono HB0_7.out.size))
      have HB4_8 := hid (HB4_7.out.trans (hb8.mono HB4_7.out.size))
      have HB5_8 := hid (HB5_7.out.trans (hb8.mono HB5_7.out.size))
      have HB7_8 := hid (HB7_7.out.trans (hb8.mono HB7_7.out.size))
      have HVA_8 := hid ((hb8.block _ (by omega)).trans HVA_7.out)
      clear HB0_7 HB4_7 HB5_7 HB7_7
      clear hw8 hb8
      go_wp2_with (go_at_call 14; rw [← HW8.out]; refine (TR.out _ (HFr.out.on HB0_8.out)).mono ?_; rintro e w9 ⟨sv9, rfl, hb9, ho9⟩; refine Hid.out ?_)
      refine hid ?_
      clear HVA_7
      have hz9 := hb9.size
      have HB0_9 := hid (HB0_8.out.trans (hb9.mono HB0_8.out.size))
      have HB4_9 := hid (HB4_8.out.trans (hb9.mono HB4_8.out.size))
      have HB5_9 := hid (HB5_8.out.trans (hb9.mono HB5_8.out.size))
      have HB7_9 := hid (HB7_8.out.trans (hb9.mono HB7_8.out.size))
      have HVA_9 := hid ((hb9.block _ (by omega)).trans HVA_8.out)
      have HVX_9 := hid ((hb9.block _ (by omega)).trans HVX_8.out)
      clear HB0_8 HB4_8 HB5_8 HB7_8 HVA_8 HVX_8
      have HB9_9 : Hid (Below w9.heap.size w9 w9) := hid (Below.refl _ _)
      have HFy := hid (texts_of ho9)
      obtain ⟨p9, c9, rfl, _⟩ := texts_of ho9
      clear ho9
      clear hb9
      have k_X_0 := (cell_of_row _ _ 0 _ _ _ HVX_9.out).trans rfl
      have k_X_1 := (cell_of_row _ _ 1 _ _ _ HVX_9.out).trans rfl
      have k_X_2 := (cell_of_row _ _ 2 _ _ _ HVX_9.out).trans rfl
      have k_X_3 := (cell_of_row _ _ 3 _ _ _ HVX_9.out).trans rfl
      have k_X_4 := (cell_of_row _ _ 4 _ _ _ HVX_9.out).trans rfl
      have k_X_5 := (cell_of_row _ _ 5 _ _ _ HVX_9.out).trans rfl
      go_wp2_with (go_at_call 45; refine (CI.out _ _ _ (HFx.out.on HB7_9.out) (HFy.out.on HB9_9.out) (tab_on HTAB.out hG HB0_9.out) (Nat.lt_of_lt_of_le hG HB0_9.out.size) (Num.tab_stays HB0_9.out HPW.out)).mono ?_; rintro e w10 ⟨rfl, hb10⟩; refine Hid.out ?_)
      refine hid ?_
      clear k_X_0 k_X_1 k_X_2 k_X_3 k_X_4 k_X_5
      have hz10 := hb10.size
      have HB0_10 := hid (HB0_9.out.trans (hb10.mono HB0_9.out.size))
      have HB4_10 := hid (HB4_9.out.trans (hb10.mono HB4_9.out.size))
      have HB5_10 := hid (HB5_9.out.trans (hb10.mono HB5_9.out.size))
      have HB7_10 := hid (HB7_9.out.trans (hb10.mono HB7_9.out.size))
      have HB9_10 := hid (HB9_9.out.trans (hb10.mono HB9_9.out.size))
      have HVA_10 := hid ((hb10.block _ (by omega)).trans HVA_9.out)
      have HVX_10 := hid ((hb10.block _ (by omega)).trans HVX_9.out)
      clear HB0_9 HB4_9 HB5_9 HB7_9 HB9_9 HVA_9 HVX_9
      clear hb10
      have CT := hid (fun W (h : Below w10.heap.size w10 W) => TA.out W (HFa.out.on (HB0_10.out.trans (h.mono HB0_10.out.size))))
      have CE := hid (fun b1 W (h : Below w10.heap.size w10 W) (h3 : FRow encSeal 4 W b1 es) => CQ.out _ b1 W ((HFx.out.on HB7_10.out).on h) h3)
      have k_X_0 : ∀ W : World, Below w10.heap.size w10 W → W.cell? ⟨_, 0, none⟩ = some (.slice p7 es.length c7) := fun W hW => (cell_of_row _ _ 0 _ _ _ ((hW.block _ (by omega)).trans HVX_10.out)).trans rfl
      have k_X_1 : ∀ W : World, Below w10.heap.size w10 W → W.cell? ⟨_, 1, none⟩ = some (.int .i64 st) := fun W hW => (cell_of_row _ _ 1 _ _ _ ((hW.block _ (by omega)).trans HVX_10.out)).trans rfl
      have k_X_2 : ∀ W : World, Below w10.heap.size w10 W → W.cell? ⟨_, 2, none⟩ = some (.int .i64 y0) := fun W hW => (cell_of_row _ _ 2 _ _ _ ((hW.block _ (by omega)).trans HVX_10.out)).trans rfl
      have k_X_3 : ∀ W : World, Below w10.heap.size w10 W → W.cell? ⟨_, 3, none⟩ = some (.int .i64 y1) := fun W hW => (cell_of_row _ _ 3 _ _ _ ((hW.block _ (by omega)).trans HVX_10.out)).trans rfl
      have k_X_4 : ∀ W : World, Below w10.heap.size w10 W → W.cell? ⟨_, 4, none⟩ = some (.string y2) := fun W hW => (cell_of_row _ _ 4 _ _ _ ((hW.block _ (by omega)).trans HVX_10.out)).trans rfl
      have k_X_5 : ∀ W : World, Below w10.heap.size w10 W → W.cell? ⟨_, 5, none⟩ = some (.string y3) := fun W hW => (cell_of_row _ _ 5 _ _ _ ((hW.block _ (by omega)).trans HVX_10.out)).trans rfl
      have k_A_0 : ∀ W : World, Below w10.heap.size w10 W → W.cell? ⟨_, 0, none⟩ = some (.slice p0 es.length c0) := fun W hW => (cell_of_row _ _ 0 _ _ _ ((hW.block _ (by omega)).trans HVA_10.out)).trans rfl
      have k_A_1 : ∀ W : World, Below w10.heap.size w10 W → W.cell? ⟨_, 1, none⟩ = some (.int .i64 st) := fun W hW => (cell_of_row _ _ 1 _ _ _ ((hW.block _ (by omega)).trans HVA_10.out)).trans rfl
      have k_A_2 : ∀ W : World, Below w10.heap.size w10 W → W.cell? ⟨_, 2, none⟩ = some (.int .i64 y0) := fun W hW => (cell_of_row _ _ 2 _ _ _ ((hW.block _ (by omega)).trans HVA_10.out)).trans rfl
      have k_A_3 : ∀ W : World, Below w10.heap.size w10 W → W.cell? ⟨_, 3, none⟩ = some (.int .i64 y1) := fun W hW => (cell_of_row _ _ 3 _ _ _ ((hW.block _ (by omega)).trans HVA_10.out)).trans rfl
      have k_A_4 : ∀ W : World, Below w10.heap.size w10 W → W.cell? ⟨_, 4, none⟩ = some (.string y2) := fun W hW => (cell_of_row _ _ 4 _ _ _ ((hW.block _ (by omega)).trans HVA_10.out)).trans rfl
      have k_A_5 : ∀ W : World, Below w10.heap.size w10 W → W.cell? ⟨_, 5, none⟩ = some (.string y3) := fun W hW => (cell_of_row _ _ 5 _ _ _ ((hW.block _ (by omega)).trans HVA_10.out)).trans rfl
      go_wp2
      go_region_held3 (fun w' => Below w10.heap.size w10 w') (first | with_reducible assumption | exact Below.drew (Below.refl _ _) | exact st_below (by assumption) (by simp) (by assumption)) ((first | (go_at_call 35; refine (CT.out _ (by assumption)).mono ?_; rintro e x1 ⟨sv1, rfl, hy1, hr1⟩) | (go_at_call 37; refine (CE.out _ _ (by assumption) (row_of_own encSeal_len hr1)).mono ?_; rintro e x2 ⟨rfl, hy2⟩) | (fail "no arm")))
      rename_i hS
      have hb11 := hS
      clear k_X_0 k_X_1 k_X_2 k_X_3 k_X_4 k_X_5 k_A_0 k_A_1 k_A_2 k_A_3 k_A_4 k_A_5
      generalize x2 = w11 at *
      clear hS
      have hz11 := hb11.size
      have HB0_11 := hid (HB0_10.out.trans (hb11.mono HB0_10.out.size))
      have HB4_11 := hid (HB4_10.out.trans (hb11.mono HB4_10.out.size))
      have HB5_11 := hid (HB5_10.out.trans (hb11.mono HB5_10.out.size))
      have HB7_11 := hid (HB7_10.out.trans (hb11.mono HB7_10.out.size))
      have HB9_11 := hid (HB9_10.out.trans (hb11.mono HB9_10.out.size))
      have HVA_11 := hid ((hb11.block _ (by omega)).trans HVA_10.out)
      have HVX_11 := hid ((hb11.block _ (by omega)).trans HVX_10.out)
      clear HB0_10 HB4_10 HB5_10 HB7_10 HB9_10 HVA_10 HVX_10
      clear hb11
      clear hy1 hr1 hy2
      go_wp2_with (go_at_call 14; refine (TR.out _ (HFr.out.on HB0_11.out)).mono ?_; rintro e w12 ⟨sv12, rfl, hb12, ho12⟩; refine Hid.out ?_)
      refine hid ?_
      have hz12 := hb12.size
      have HB0_12 := hid (HB0_11.out.trans (hb12.mono HB0_11.out.size))
      have HB4_12 := hid (HB4_11.out.trans (hb12.mono HB4_11.out.size))
      have HB5_12 := hid (HB5_11.out.trans (hb12.mono HB5_11.out.size))
      have HB7_12 := hid (HB7_11.out.trans (hb12.mono HB7_11.out.size))
      have HB9_12 := hid (HB9_11.out.trans (hb12.mono HB9_11.out.size))
      have HVA_12 := hid ((hb12.block _ (by omega)).trans HVA_11.out)
      have HVX_12 := hid ((hb12.block _ (by omega)).trans HVX_11.out)
      clear HB0_11 HB4_11 HB5_11 HB7_11 HB9_11 HVA_11 HVX_11
      have HB12_12 : Hid (Below w12.heap.size w12 w12) := hid (Below.refl _ _)
      have HFz := hid (texts_of ho12)
      obtain ⟨p12, c12, rfl, _⟩ := texts_of ho12
      clear ho12
      clear hb12
      go_wp2_with (go_at_call 16; refine (CQR.out _ _ _ (HFy.out.on HB9_12.out) (HFz.out.on HB12_12.out)).mono ?_; rintro e w13 ⟨rfl, hb13⟩; refine Hid.out ?_)
      refine hid ?_
      have hz13 := hb13.size
      have HB0_13 := hid (HB0_12.out.trans (hb13.mono HB0_12.out.size))
      have HB4_13 := hid (HB4_12.out.trans (hb13.mono HB4_12.out.size))
      have HB5_13 := hid (HB5_12.out.trans (hb13.mono HB5_12.out.size))
      have HB7_13 := hid (HB7_12.out.trans (hb13.mono HB7_12.out.size))
      have HB9_13 := hid (HB9_12.out.trans (hb13.mono HB9_12.out.size))
      have HB12_13 := hid (HB12_12.out.trans (hb13.mono HB12_12.out.size))
      have HVA_13 := hid ((hb13.block _ (by omega)).trans HVA_12.out)
      have HVX_13 := hid ((hb13.block _ (by omega)).trans HVX_12.out)
      clear HB0_12 HB4_12 HB5_12 HB7_12 HB9_12 HB12_12 HVA_12 HVX_12
      clear hb13
      go_wp2
      go_ret
      exact ⟨rfl, HB0_13.out⟩
end Go.Proofs.YtponjghppnpnhaaDoor
