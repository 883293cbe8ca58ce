/- The law on VaultOk, walked: it answers true. -/
import Derived.Test.YtponjghppnpnhaaDoorVltSpec
import Derived.Test.YtponjghppnpnhaaDoorVltImpl
import Derived.Test.YtponjghppnpnhaaDoorEqVault
import Derived.Test.YtponjghppnpnhaaDoorLawKit
import Derived.Deep.RegionHeld3
namespace Go.Proofs.YtponjghppnpnhaaDoor
open Go.RowKit
open Go.Lib (hid)

set_option maxRecDepth 20000 in
set_option maxHeartbeats 4000000 in
theorem law_vaultok (es : List SealD) (st y0 y1 : Int) (y2 y3 : ByteArray) (hs : ∀ e ∈ es, tameSeal e) (hm : es.length ≤ maxLen) (hq : tameSeal ⟨y0, y1, y2, y3⟩) (a1 : Value) (w : World) (h1 : FArg encSeal 4 w a1 es) (hT : Tab w) (hG : 0 < w.heap.size) :
    Calls Tryd.prog 7 #[.agg #[a1, .int .i64 st, .int .i64 y0, .int .i64 y1, .string y2, .string y3]] w fun e w' => e = .returned (.bool true) ∧ Below w.heap.size w w' := by
  have HFa := hid h1
  have HTAB := hid hT
  have CZ := hid (fun W (h1 : FArg encSeal 4 W a1 es) => sz_Vault es st y0 y1 y2 y3 hs hm hq.1 hq.2.1 1048576 (Nat.le_refl _) a1 W h1)
  obtain ⟨p0, c0, rfl, hrest⟩ := h1
  clear hrest hT hs hq
  have HB0_0 : Hid (Below w.heap.size w w) := hid (Below.refl _ _)
  have hz0 : w.heap.size ≤ w.heap.size := Nat.le_refl _
  obtain ⟨w1, hw1⟩ : ∃ W, W = w.alloc (.cells #[.slice p0 es.length c0, .int .i64 st, .int .i64 y0, .int .i64 y1, .string y2, .string y3] 64) := ⟨_, rfl⟩
  have hb1 : Below w.heap.size w w1 := by rw [hw1]; exact (Below.refl _ _).alloc (Nat.le_refl _) _
  have hz1 : w.heap.size < w1.heap.size := by rw [hw1]; simp
  have HVA_1 : Hid (w1.heap[w.heap.size]? = some (.cells #[.slice p0 es.length c0, .int .i64 st, .int .i64 y0, .int .i64 y1, .string y2, .string y3] 64)) := hid (by rw [hw1]; exact heap_alloc_new _ _)
  have HW1 := hid hw1
  have HB0_1 := hid (HB0_0.out.trans (hb1.mono HB0_0.out.size))
  clear hw1 hb1
  go_enter Tryd.func7, Tryd.ntmps7
  go_wp2_with (go_at_call 33; rw [← HW1.out]; refine (CZ.out _ (HFa.out.on HB0_1.out)).mono ?_; rintro e w2 ⟨⟨r, rfl, hr⟩, hb2⟩; refine Hid.out ?_)
  refine hid ?_
  have hz2 := hb2.size
  have HB0_2 := hid (HB0_1.out.trans (hb2.mono HB0_1.out.size))
  have HVA_2 := hid ((hb2.block _ (by omega)).trans HVA_1.out)
  clear HB0_1 HVA_1
  clear hb2
  rcases hr with hr | ⟨hr, htot⟩
  · go_wp2
    go_ret
    exact ⟨rfl, HB0_2.out⟩
  · skip
    have hr2 : ¬ r < 0 := by omega
    have hl1 : es.length ≤ 1048576 := by omega
    have hsm : ∀ e ∈ es, e.x2.size ≤ 1048576 ∧ e.x3.size ≤ 1048576 := fun e he => by
      have h := used_mem (sz := szSealN) he
      have h5 : szSealN e = e.x2.size + e.x3.size := rfl
      omega
    have h6 : szSealN ⟨y0, y1, y2, y3⟩ = y2.size + y3.size := rfl
    have hq2 : y2.size ≤ 1048576 := by omega
    have hq3 : y3.size ≤ 1048576 := by omega
    have TA := hid (fun W (h1 : FArg encSeal 4 W (.slice p0 es.length c0) es) => to_Vault es st y0 y1 y2 y3 hl1 _ W h1)
    have CS := hid (fun b W hb => vault_spec es hl1 hsm st y0 y1 y2 y3 hq2 hq3 b W hb)
    have CI := hid (fun b W hb hT hG => vault_impl es hl1 st y0 y1 y2 y3 b W hb hT hG)
    have CQ := hid (fun a1 b1 W h1 h2 => eq_Vault es (by omega) st y0 y1 y2 y3 a1 b1 W h1 h2)
    generalize vaultB es st ⟨y0, y1, y2, y3⟩ = rb at *
    have hbb : (rb != rb) = false := by simp
    clear htot hr hsm hq2 hq3 h6
    have k_A_0 := (cell_of_row _ _ 0 _ _ _ HVA_2.out).trans rfl
    have k_A_1 := (cell_of_row _ _ 1 _ _ _ HVA_2.out).trans rfl
    have k_A_2 := (cell_of_row _ _ 2 _ _ _ HVA_2.out).trans rfl
    have k_A_3 := (cell_of_row _ _ 3 _ _ _ HVA_2.out).trans rfl
    have k_A_4 := (cell_of_row _ _ 4 _ _ _ HVA_2.out).trans rfl
    have k_A_5 := (cell_of_row _ _ 5 _ _ _ HVA_2.out).trans rfl
    go_wp2_with (go_at_call 35; refine (TA.out _ (HFa.out.on HB0_2.out)).mono ?_; rintro e w3 ⟨sv3, rfl, hb3, ho3⟩; refine Hid.out ?_)
    refine hid ?_
    clear k_A_0 k_A_1 k_A_2 k_A_3 k_A_4 k_A_5
    have hz3 := hb3.size
    have HB0_3 := hid (HB0_2.out.trans (hb3.mono HB0_2.out.size))
    have HVA_3 := hid ((hb3.block _ (by omega)).trans HVA_2.out)
    clear HB0_2 HVA_2
    have HB3_3 : Hid (Below w3.heap.size w3 w3) := hid (Below.refl _ _)
    have HFu := hid (row_of_own encSeal_len ho3)
    obtain ⟨p3, c3, rfl, _, _⟩ := row_of_own encSeal_len ho3
    clear ho3
    clear hb3
    go_wp2_with (go_at_call 34; refine (CS.out _ _ (HFu.out.on HB3_3.out)).mono ?_; rintro e w4 ⟨rfl, hb4⟩; refine Hid.out ?_)
    refine hid ?_
    have hz4 := hb4.size
    have HB0_4 := hid (HB0_3.out.trans (hb4.mono HB0_3.out.size))
    have HB3_4 := hid (HB3_3.out.trans (hb4.mono HB3_3.out.size))
    have HVA_4 := hid ((hb4.block _ (by omega)).trans HVA_3.out)
    clear HB0_3 HB3_3 HVA_3
    clear hb4
    have k_A_0 := (cell_of_row _ _ 0 _ _ _ HVA_4.out).trans rfl
    have k_A_1 := (cell_of_row _ _ 1 _ _ _ HVA_4.out).trans rfl
    have k_A_2 := (cell_of_row _ _ 2 _ _ _ HVA_4.out).trans rfl
    have k_A_3 := (cell_of_row _ _ 3 _ _ _ HVA_4.out).trans rfl
    have k_A_4 := (cell_of_row _ _ 4 _ _ _ HVA_4.out).trans rfl
    have k_A_5 := (cell_of_row _ _ 5 _ _ _ HVA_4.out).trans rfl
    go_wp2_with (go_at_call 35; refine (TA.out _ (HFa.out.on HB0_4.out)).mono ?_; rintro e w5 ⟨sv5, rfl, hb5, ho5⟩; refine Hid.out ?_)
    refine hid ?_
    clear k_A_0 k_A_1 k_A_2 k_A_3 k_A_4 k_A_5
    have hz5 := hb5.size
    have HB0_5 := hid (HB0_4.out.trans (hb5.mono HB0_4.out.size))
    have HB3_5 := hid (HB3_4.out.trans (hb5.mono HB3_4.out.size))
    have HVA_5 := hid ((hb5.block _ (by omega)).trans HVA_4.out)
    clear HB0_4 HB3_4 HVA_4
    have HB5_5 : Hid (Below w5.heap.size w5 w5) := hid (Below.refl _ _)
    have HFx := hid (row_of_own encSeal_len ho5)
    obtain ⟨p5, c5, rfl, _, _⟩ := row_of_own encSeal_len ho5
    clear ho5
    clear hb5
    obtain ⟨w6, hw6⟩ : ∃ W, W = w5.alloc (.cells #[.slice p5 es.length c5, .int .i64 st, .int .i64 y0, .int .i64 y1, .string y2, .string y3] 70) := ⟨_, rfl⟩
    have hb6 : Below w5.heap.size w5 w6 := by rw [hw6]; exact (Below.refl _ _).alloc (Nat.le_refl _) _
    have hz6 : w5.heap.size < w6.heap.size := by rw [hw6]; simp
    have HVX_6 : Hid (w6.heap[w5.heap.size]? = some (.cells #[.slice p5 es.length c5, .int .i64 st, .int .i64 y0, .int .i64 y1, .string y2, .string y3] 70)) := hid (by rw [hw6]; exact heap_alloc_new _ _)
    have HW6 := hid hw6
    have HB0_6 := hid (HB0_5.out.trans (hb6.mono HB0_5.out.size))
    have HB3_6 := hid (HB3_5.out.trans (hb6.mono HB3_5.out.size))
    have HB5_6 := hid (HB5_5.out.trans (hb6.mono HB5_5.out.size))
    have HVA_6 := hid ((hb6.block _ (by omega)).trans HVA_5.out)
    clear HB0_5 HB3_5 HB5_5
    clear hw6 hb6
    go_wp2_with (go_at_call 36; rw [← HW6.out]; refine (CI.out _ _ (HFx.out.on HB5_6.out) (tab_on HTAB.out hG HB0_6.out) (Nat.lt_of_lt_of_le hG HB0_6.out.size)).mono ?_; rintro e w7 ⟨rfl, hb7⟩; refine Hid.out ?_)
    refine hid ?_
    clear HVA_5
    have hz7 := hb7.size
    have HB0_7 := hid (HB0_6.out.trans (hb7.mono HB0_6.out.size))
    have HB3_7 := hid (HB3_6.out.trans (hb7.mono HB3_6.out.size))
    have HB5_7 := hid (HB5_6.out.trans (hb7.mono HB5_6.out.size))
    have HVA_7 := hid ((hb7.block _ (by omega)).trans HVA_6.out)
    have HVX_7 := hid ((hb7.block _ (by omega)).trans HVX_6.out)
    clear HB0_6 HB3_6 HB5_6 HVA_6 HVX_6
    clear hb7
    have CT := hid (fun W (h : Below w7.heap.size w7 W) => TA.out W (HFa.out.on (HB0_7.out.trans (h.mono HB0_7.out.size))))
    have CE := hid (fun b1 W (h : Below w7.heap.size w7 W) (h3 : FRow encSeal 4 W b1 es) => CQ.out _ b1 W ((HFx.out.on HB5_7.out).on h) h3)
    have k_X_0 : ∀ W : World, Below w7.heap.size w7 W → W.cell? ⟨_, 0, none⟩ = some (.slice p5 es.length c5) := fun W hW => (cell_of_row _ _ 0 _ _ _ ((hW.block _ (by omega)).trans HVX_7.out)).trans rfl
    have k_X_1 : ∀ W : World, Below w7.heap.size w7 W → W.cell? ⟨_, 1, none⟩ = some (.int .i64 st) := fun W hW => (cell_of_row _ _ 1 _ _ _ ((hW.block _ (by omega)).trans HVX_7.out)).trans rfl
    have k_X_2 : ∀ W : World, Below w7.heap.size w7 W → W.cell? ⟨_, 2, none⟩ = some (.int .i64 y0) := fun W hW => (cell_of_row _ _ 2 _ _ _ ((hW.block _ (by omega)).trans HVX_7.out)).trans rfl
    have k_X_3 : ∀ W : World, Below w7.heap.size w7 W → W.cell? ⟨_, 3, none⟩ = some (.int .i64 y1) := fun W hW => (cell_of_row _ _ 3 _ _ _ ((hW.block _ (by omega)).trans HVX_7.out)).trans rfl
    have k_X_4 : ∀ W : World, Below w7.heap.size w7 W → W.cell? ⟨_, 4, none⟩ = some (.string y2) := fun W hW => (cell_of_row _ _ 4 _ _ _ ((hW.block _ (by omega)).trans HVX_7.out)).trans rfl
    have k_X_5 : ∀ W : World, Below w7.heap.size w7 W → W.cell? ⟨_, 5, none⟩ = some (.string y3) := fun W hW => (cell_of_row _ _ 5 _ _ _ ((hW.block _ (by omega)).trans HVX_7.out)).trans rfl
    have k_A_0 : ∀ W : World, Below w7.heap.size w7 W → W.cell? ⟨_, 0, none⟩ = some (.slice p0 es.length c0) := fun W hW => (cell_of_row _ _ 0 _ _ _ ((hW.block _ (by omega)).trans HVA_7.out)).trans rfl
    have k_A_1 : ∀ W : World, Below w7.heap.size w7 W → W.cell? ⟨_, 1, none⟩ = some (.int .i64 st) := fun W hW => (cell_of_row _ _ 1 _ _ _ ((hW.block _ (by omega)).trans HVA_7.out)).trans rfl
    have k_A_2 : ∀ W : World, Below w7.heap.size w7 W → W.cell? ⟨_, 2, none⟩ = some (.int .i64 y0) := fun W hW => (cell_of_row _ _ 2 _ _ _ ((hW.block _ (by omega)).trans HVA_7.out)).trans rfl
    have k_A_3 : ∀ W : World, Below w7.heap.size w7 W → W.cell? ⟨_, 3, none⟩ = some (.int .i64 y1) := fun W hW => (cell_of_row _ _ 3 _ _ _ ((hW.block _ (by omega)).trans HVA_7.out)).trans rfl
    have k_A_4 : ∀ W : World, Below w7.heap.size w7 W → W.cell? ⟨_, 4, none⟩ = some (.string y2) := fun W hW => (cell_of_row _ _ 4 _ _ _ ((hW.block _ (by omega)).trans HVA_7.out)).trans rfl
    have k_A_5 : ∀ W : World, Below w7.heap.size w7 W → W.cell? ⟨_, 5, none⟩ = some (.string y3) := fun W hW => (cell_of_row _ _ 5 _ _ _ ((hW.block _ (by omega)).trans HVA_7.out)).trans rfl
    go_wp2
    go_region_held3 (fun w' => Below w7.heap.size w7 w') (first | with_reducible assumption | exact Below.drew (Below.refl _ _) | exact st_below (by assumption) (by simp) (by assumption)) ((first | (go_at_call 35; refine (CT.out _ (by assumption)).mono ?_; rintro e x1 ⟨sv1, rfl, hy1, hr1⟩) | (go_at_call 37; refine (CE.out _ _ (by assumption) (row_of_own encSeal_len hr1)).mono ?_; rintro e x2 ⟨rfl, hy2⟩) | (fail "no arm")))
    rename_i hS
    have hb8 := hS
    clear k_X_0 k_X_1 k_X_2 k_X_3 k_X_4 k_X_5 k_A_0 k_A_1 k_A_2 k_A_3 k_A_4 k_A_5
    generalize x2 = w8 at *
    clear hS
    have hz8 := hb8.size
    have HB0_8 := hid (HB0_7.out.trans (hb8.mono HB0_7.out.size))
    have HB3_8 := hid (HB3_7.out.trans (hb8.mono HB3_7.out.size))
    have HB5_8 := hid (HB5_7.out.trans (hb8.mono HB5_7.out.size))
    have HVA_8 := hid ((hb8.block _ (by omega)).trans HVA_7.out)
    have HVX_8 := hid ((hb8.block _ (by omega)).trans HVX_7.out)
    clear HB0_7 HB3_7 HB5_7 HVA_7 HVX_7
    clear hb8
    clear hy1 hr1 hy2
    go_wp2
    go_ret
    exact ⟨rfl, HB0_8.out⟩
end Go.Proofs.YtponjghppnpnhaaDoor
