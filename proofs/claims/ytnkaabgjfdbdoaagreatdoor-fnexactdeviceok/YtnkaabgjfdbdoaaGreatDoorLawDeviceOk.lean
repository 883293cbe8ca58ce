/- The law on DeviceOk, walked: it answers true. -/
import Derived.Test.YtnkaabgjfdbdoaaGreatDoorDevSz
import Derived.Test.YtnkaabgjfdbdoaaGreatDoorStDevice
import Derived.Test.YtnkaabgjfdbdoaaGreatDoorToDevice
import Derived.Test.YtnkaabgjfdbdoaaGreatDoorStVault
import Derived.Test.YtnkaabgjfdbdoaaGreatDoorPackRead
import Derived.Test.YtnkaabgjfdbdoaaGreatDoorDevHelp
import Derived.Test.YtnkaabgjfdbdoaaGreatDoorDevOkSpec
import Derived.Test.YtnkaabgjfdbdoaaGreatDoorDevOkImpl
import Derived.Test.YtnkaabgjfdbdoaaGreatDoorPackRoot
import Derived.Test.YtnkaabgjfdbdoaaGreatDoorRootOpen
import Derived.Test.YtnkaabgjfdbdoaaGreatDoorPackVlt
import Derived.Deep.RegionHeld3
namespace Go.Proofs.YtnkaabgjfdbdoaaGreatDoor
open Go.RowKit
open Go.Lib (hid)

set_option maxRecDepth 20000 in
set_option maxHeartbeats 4000000 in
theorem law_deviceok (name key : ByteArray) (hname : name.size ≤ 9223372036854775807) (hkey : key.size ≤ 9223372036854775807) (sz : Int) (l : List Int) (hm : l.length ≤ maxLen) (up : Bool) (ps : List (List UInt8)) (hs : ∀ p ∈ ps, p.length ≤ 9223372036854775807) (hn : ps.length ≤ 9223372036854775807) (ss : List SealD) (ts : ∀ e ∈ ss, tameSeal e) (ns : ss.length ≤ maxLen) (st y0 y1 : Int) (y2 y3 : ByteArray) (z2 : y2.size ≤ 9223372036854775807) (z3 : y3.size ≤ 9223372036854775807) (ims : List ImageD) (ti : ∀ e ∈ ims, tameImage e) (ni : ims.length ≤ maxLen) (es : List EventD) (te : ∀ e ∈ es, tameEvent e) (ne : es.length ≤ maxLen) (a1 a2 a3 a4 a5 : Value) (w : World) (h1 : ArgInts w a1 l) (h2 : ArgAt w a2 ps) (h3 : FArg encSeal 4 w a3 ss) (h4 : FArg encImage 2 w a4 ims) (h5 : FArg encEvent 2 w a5 es) (hT : Tab w) (hG : 0 < w.heap.size) (hP : Lib.TabIs Tryz.prog w "internal/strconv.uint64pow10" .u64 Lib.pow10Tab) :
    Calls Tryz.prog 3 #[.agg #[.string name, .string key, .int .i64 sz, a1, .bool up, a2, a3, .int .i64 st, .int .i64 y0, .int .i64 y1, .string y2, .string y3, a4, a5]] w fun e w' => e = .returned (.bool true) ∧ Below w.heap.size w w' := by
  have HF1 := hid h1
  have HF2 := hid h2
  have HF3 := hid h3
  have HF4 := hid h4
  have HF5 := hid h5
  have HTAB := hid hT
  have HPW := hid hP
  obtain ⟨p0, c0, rfl, _⟩ := h1
  obtain ⟨q0, d0, rfl, _⟩ := h2
  obtain ⟨u0, v0, rfl, _⟩ := h3
  obtain ⟨m0, n0, rfl, _⟩ := h4
  obtain ⟨g0, h0, rfl, _⟩ := h5
  have CZ := hid (fun W (h1 : ArgInts W (.slice p0 l.length c0) l) (h2 : ArgAt W (.slice q0 ps.length d0) ps) (h3 : FArg encSeal 4 W (.slice u0 ss.length v0) ss) (h4 : FArg encImage 2 W (.slice m0 ims.length n0) ims) (h5 : FArg encEvent 2 W (.slice g0 es.length h0) es) =>
    sz_device name key sz p0 l.length c0 up q0 ps.length d0 u0 ss.length v0 st y0 y1 y2 y3 ims m0 n0 es g0 h0 hname ti ni te ne (key.size + l.length + (ps.length + total ps)) (ss.length + used szSealN ss + szSealN ⟨y0, y1, y2, y3⟩) W h4 h5
      (fun W' hb k hk => sz_rootk key hkey sz l hm up ps hs hn k hk _ _ W' (h1.on hb) (h2.on hb))
      (fun W' hb k hk => sz_Vault ss st y0 y1 y2 y3 ts ns z2 z3 k hk _ W' (h3.on hb)))
  clear hT hP hs ts ti te
  have HB0_0 : Hid (Below w.heap.size w w) := hid (Below.refl _ _)
  have hz0 : w.heap.size ≤ w.heap.size := Nat.le_refl _
  obtain ⟨w1, hw1⟩ : ∃ W, W = w.alloc (.cells #[.string name, .string key, .int .i64 sz, .slice p0 l.length c0, .bool up, .slice q0 ps.length d0, .slice u0 ss.length v0, .int .i64 st, .int .i64 y0, .int .i64 y1, .string y2, .string y3, .slice m0 ims.length n0, .slice g0 es.length h0] 36) := ⟨_, rfl⟩
  have hb1 : Below w.heap.size w w1 := by rw [hw1]; exact (Below.refl _ _).alloc (Nat.le_refl _) _
  have hz1 : w.heap.size < w1.heap.size := by rw [hw1]; simp
  have HVA_1 : Hid (w1.heap[w.heap.size]? = some (.cells #[.string name, .string key, .int .i64 sz, .slice p0 l.length c0, .bool up, .slice q0 ps.length d0, .slice u0 ss.length v0, .int .i64 st, .int .i64 y0, .int .i64 y1, .string y2, .string y3, .slice m0 ims.length n0, .slice g0 es.length h0] 36)) := hid (by rw [hw1]; exact heap_alloc_new _ _)
  have HW1 := hid hw1
  have HB0_1 := hid (HB0_0.out.trans (hb1.mono HB0_0.out.size))
  clear hw1 hb1
  go_enter Tryz.func3, Tryz.ntmps3
  go_wp2_with (go_at_call 8; rw [← HW1.out]; refine (CZ.out _ (HF1.out.on HB0_1.out) (HF2.out.on HB0_1.out) (HF3.out.on HB0_1.out) (HF4.out.on HB0_1.out) (HF5.out.on HB0_1.out)).mono ?_; rintro e w2 ⟨⟨r, rfl, hr⟩, hb2⟩; refine Hid.out ?_)
  refine hid ?_
  have hz2 := hb2.size
  have HB0_2 := hid (HB0_1.out.trans (hb2.mono HB0_1.out.size))
  have HVA_2 := hid ((hb2.block _ (by omega)).trans HVA_1.out)
  clear HB0_1 HVA_1
  clear hb2
  rcases hr with hr | ⟨hr, htot⟩
  · go_wp2
    go_ret
    exact ⟨rfl, HB0_2.out⟩
  · skip
    have hr2 : ¬ r < 0 := by omega
    have b1 : l.length ≤ 1048576 := by omega
    have b2 : ps.length ≤ 1048576 := by omega
    have b3 : ss.length ≤ 1048576 := by omega
    have b4 : ims.length ≤ 1048576 := by omega
    have b5 : es.length ≤ 1048576 := by omega
    have s2 : ∀ p ∈ ps, p.length ≤ 1048576 := fun p hp => by have := total_mem hp; omega
    have s3 : ∀ e ∈ ss, e.x2.size ≤ 1048576 ∧ e.x3.size ≤ 1048576 := fun e he => by have h := used_mem (sz := szSealN) he; unfold szSealN at h htot; constructor <;> omega
    have s5 : ∀ e ∈ es, e.x1.size ≤ 1048576 := fun e he => by have h := used_mem (sz := szEventN) he; unfold szEventN at h htot; omega
    have sy : y2.size ≤ 1048576 ∧ y3.size ≤ 1048576 := by have h : szSealN ⟨y0, y1, y2, y3⟩ = y2.size + y3.size := rfl; constructor <;> omega
    have TA := hid (fun W (h1 : ArgInts W (.slice p0 l.length c0) l) (h2 : ArgAt W (.slice q0 ps.length d0) ps) (h3 : FArg encSeal 4 W (.slice u0 ss.length v0) ss) (h4 : FArg encImage 2 W (.slice m0 ims.length n0) ims) (h5 : FArg encEvent 2 W (.slice g0 es.length h0) es) =>
      to_device name key sz l p0 l.length c0 up ps q0 ps.length d0 ss u0 ss.length v0 st y0 y1 y2 y3 ims b4 m0 n0 es b5 g0 h0 W h4 h5
        (fun W' hb => to_root key sz l b1 up ps b2 _ _ W' (h1.on hb) (h2.on hb)) (fun W' hb => to_Vault ss st y0 y1 y2 y3 b3 _ W' (h3.on hb)))
    have CS := hid (fun p1 c1 p2 c2 p3 c3 p4 c4 p5 c5 W (h1 : RowIn W (.slice p1 l.length c1) l) (h2 : TextsAt W (.slice p2 ps.length c2) ps) (h3 : FRow encSeal 4 W (.slice p3 ss.length c3) ss) (h4 : FRow encImage 2 W (.slice p4 ims.length c4) ims) (h5 : FRow encEvent 2 W (.slice p5 es.length c5) es) =>
      devOk_spec name key sz l p1 c1 up ps p2 c2 (ss.map fun _ => ()) p3 c3 st y0 y1 y2 y3 ims p4 c4 es s5 b5 p5 c5 (rootB key.data.toList sz l up ps) (vaultB ss st ⟨y0, y1, y2, y3⟩) W h2 h4 h5 b4
        (fun W' hb => rootOk_spec key sz l b1 up ps s2 b2 _ _ W' (h1.on hb) (h2.on hb)) (fun W' hb => by rw [List.length_map]; exact vault_spec ss b3 s3 st y0 y1 y2 y3 sy.1 sy.2 _ W' (h3.on hb)))
    have CI := hid (fun p1 c1 p2 c2 p3 c3 p4 c4 p5 c5 W (h1 : RowIn W (.slice p1 l.length c1) l) (h2 : TextsAt W (.slice p2 ps.length c2) ps) (h3 : FRow encSeal 4 W (.slice p3 ss.length c3) ss) (h4 : FRow encImage 2 W (.slice p4 ims.length c4) ims) (h5 : FRow encEvent 2 W (.slice p5 es.length c5) es) hT hG hP =>
      devOk_impl name key sz l p1 c1 up ps b2 p2 c2 (ss.map fun _ => ()) p3 c3 st y0 y1 y2 y3 ims p4 c4 es b5 p5 c5 (rootB key.data.toList sz l up ps) (vaultB ss st ⟨y0, y1, y2, y3⟩) W h2 h4 h5 b4 hT hG hP
        (fun W' hb => rootOk_impl key sz l b1 up ps b2 _ _ W' (h1.on hb) (h2.on hb) (tab_on hT hG hb) (Nat.lt_of_lt_of_le hG hb.size)) (fun W' hb => by rw [List.length_map]; exact vault_impl ss b3 st y0 y1 y2 y3 _ W' (h3.on hb) (tab_on hT hG hb) (Nat.lt_of_lt_of_le hG hb.size)))
    rw [List.length_map] at CS CI
    have CQ := hid (fun a1 a2 a3 a4 a5 e1 e2 e3 e4 e5 W h1 h2 h3 h4 h5 i1 i2 i3 i4 i5 => eq_device name key sz l (by omega) up ps (by omega) ss (by omega) st y0 y1 y2 y3 ims (by omega) es (by omega) a1 a2 a3 a4 a5 e1 e2 e3 e4 e5 W h1 h2 h3 h4 h5 i1 i2 i3 i4 i5)
    generalize devB (nameB name.data.toList) (rootB key.data.toList sz l up ps) (vaultB ss st ⟨y0, y1, y2, y3⟩) up ims es ps = rb at *
    have hbb : (rb != rb) = false := by simp
    clear htot hr s2 s3 s5
    have k_A_0 := (cell_of_row _ _ 0 _ _ _ HVA_2.out).trans rfl
    have k_A_1 := (cell_of_row _ _ 1 _ _ _ HVA_2.out).trans rfl
    have k_A_2 := (cell_of_row _ _ 2 _ _ _ HVA_2.out).trans rfl
    have k_A_3 := (cell_of_row _ _ 3 _ _ _ HVA_2.out).trans rfl
    have k_A_4 := (cell_of_row _ _ 4 _ _ _ HVA_2.out).trans rfl
    have k_A_5 := (cell_of_row _ _ 5 _ _ _ HVA_2.out).trans rfl
    have k_A_6 := (cell_of_row _ _ 6 _ _ _ HVA_2.out).trans rfl
    have k_A_7 := (cell_of_row _ _ 7 _ _ _ HVA_2.out).trans rfl
    have k_A_8 := (cell_of_row _ _ 8 _ _ _ HVA_2.out).trans rfl
    have k_A_9 := (cell_of_row _ _ 9 _ _ _ HVA_2.out).trans rfl
    have k_A_10 := (cell_of_row _ _ 10 _ _ _ HVA_2.out).trans rfl
    have k_A_11 := (cell_of_row _ _ 11 _ _ _ HVA_2.out).trans rfl
    have k_A_12 := (cell_of_row _ _ 12 _ _ _ HVA_2.out).trans rfl
    have k_A_13 := (cell_of_row _ _ 13 _ _ _ HVA_2.out).trans rfl
    go_wp2_with (go_at_call 10; refine (TA.out _ (HF1.out.on HB0_2.out) (HF2.out.on HB0_2.out) (HF3.out.on HB0_2.out) (HF4.out.on HB0_2.out) (HF5.out.on HB0_2.out)).mono ?_; rintro e w3 ⟨t1, t2, t3, t4, t5, rfl, hb3, f1, f2, f3, f4, f5⟩; refine Hid.out ?_)
    refine hid ?_
    clear k_A_0 k_A_1 k_A_2 k_A_3 k_A_4 k_A_5 k_A_6 k_A_7 k_A_8 k_A_9 k_A_10 k_A_11 k_A_12 k_A_13
    have hz3 := hb3.size
    have HB0_3 := hid (HB0_2.out.trans (hb3.mono HB0_2.out.size))
    have HVA_3 := hid ((hb3.block _ (by omega)).trans HVA_2.out)
    clear HB0_2 HVA_2
    have HB3_3 : Hid (Below w3.heap.size w3 w3) := hid (Below.refl _ _)
    have HFu1 := hid (f1)
    have HFu2 := hid (f2)
    have HFu3 := hid (f3)
    have HFu4 := hid (f4)
    have HFu5 := hid (f5)
    obtain ⟨pa3, ca3, rfl, _, _⟩ := f1
    obtain ⟨pb3, cb3, rfl, _⟩ := f2
    obtain ⟨pc3, cc3, rfl, _, _⟩ := f3
    obtain ⟨pd3, cd3, rfl, _, _⟩ := f4
    obtain ⟨pe3, ce3, rfl, _, _⟩ := f5
    clear hb3
    go_wp2_with (go_at_call 9; refine (CS.out _ _ _ _ _ _ _ _ _ _ _ (HFu1.out.on HB3_3.out) (HFu2.out.on HB3_3.out) (HFu3.out.on HB3_3.out) (HFu4.out.on HB3_3.out) (HFu5.out.on HB3_3.out)).mono ?_; rintro e w4 ⟨rfl, hb4⟩; refine Hid.out ?_)
    refine hid ?_
    have hz4 := hb4.size
    have HB0_4 := hid (HB0_3.out.trans (hb4.mono HB0_3.out.size))
    have HB3_4 := hid (HB3_3.out.trans (hb4.mono HB3_3.out.size))
    have HVA_4 := hid ((hb4.block _ (by omega)).trans HVA_3.out)
    clear HB0_3 HB3_3 HVA_3
    clear hb4
    have k_A_0 := (cell_of_row _ _ 0 _ _ _ HVA_4.out).trans rfl
    have k_A_1 := (cell_of_row _ _ 1 _ _ _ HVA_4.out).trans rfl
    have k_A_2 := (cell_of_row _ _ 2 _ _ _ HVA_4.out).trans rfl
    have k_A_3 := (cell_of_row _ _ 3 _ _ _ HVA_4.out).trans rfl
    have k_A_4 := (cell_of_row _ _ 4 _ _ _ HVA_4.out).trans rfl
    have k_A_5 := (cell_of_row _ _ 5 _ _ _ HVA_4.out).trans rfl
    have k_A_6 := (cell_of_row _ _ 6 _ _ _ HVA_4.out).trans rfl
    have k_A_7 := (cell_of_row _ _ 7 _ _ _ HVA_4.out).trans rfl
    have k_A_8 := (cell_of_row _ _ 8 _ _ _ HVA_4.out).trans rfl
    have k_A_9 := (cell_of_row _ _ 9 _ _ _ HVA_4.out).trans rfl
    have k_A_10 := (cell_of_row _ _ 10 _ _ _ HVA_4.out).trans rfl
    have k_A_11 := (cell_of_row _ _ 11 _ _ _ HVA_4.out).trans rfl
    have k_A_12 := (cell_of_row _ _ 12 _ _ _ HVA_4.out).trans rfl
    have k_A_13 := (cell_of_row _ _ 13 _ _ _ HVA_4.out).trans rfl
    go_wp2_with (go_at_call 10; refine (TA.out _ (HF1.out.on HB0_4.out) (HF2.out.on HB0_4.out) (HF3.out.on HB0_4.out) (HF4.out.on HB0_4.out) (HF5.out.on HB0_4.out)).mono ?_; rintro e w5 ⟨t1, t2, t3, t4, t5, rfl, hb5, f1, f2, f3, f4, f5⟩; refine Hid.out ?_)
    refine hid ?_
    clear k_A_0 k_A_1 k_A_2 k_A_3 k_A_4 k_A_5 k_A_6 k_A_7 k_A_8 k_A_9 k_A_10 k_A_11 k_A_12 k_A_13
    have hz5 := hb5.size
    have HB0_5 := hid (HB0_4.out.trans (hb5.mono HB0_4.out.size))
    have HB3_5 := hid (HB3_4.out.trans (hb5.mono HB3_4.out.size))
    have HVA_5 := hid ((hb5.block _ (by omega)).trans HVA_4.out)
    clear HB0_4 HB3_4 HVA_4
    have HB5_5 : Hid (Below w5.heap.size w5 w5) := hid (Below.refl _ _)
    have HFx1 := hid (f1)
    have HFx2 := hid (f2)
    have HFx3 := hid (f3)
    have HFx4 := hid (f4)
    have HFx5 := hid (f5)
    obtain ⟨pa5, ca5, rfl, _, _⟩ := f1
    obtain ⟨pb5, cb5, rfl, _⟩ := f2
    obtain ⟨pc5, cc5, rfl, _, _⟩ := f3
    obtain ⟨pd5, cd5, rfl, _, _⟩ := f4
    obtain ⟨pe5, ce5, rfl, _, _⟩ := f5
    clear hb5
    obtain ⟨w6, hw6⟩ : ∃ W, W = w5.alloc (.cells #[.string name, .string key, .int .i64 sz, .slice pa5 l.length ca5, .bool up, .slice pb5 ps.length cb5, .slice pc5 ss.length cc5, .int .i64 st, .int .i64 y0, .int .i64 y1, .string y2, .string y3, .slice pd5 ims.length cd5, .slice pe5 es.length ce5] 49) := ⟨_, rfl⟩
    have hb6 : Below w5.heap.size w5 w6 := by rw [hw6]; exact (Below.refl _ _).alloc (Nat.le_refl _) _
    have hz6 : w5.heap.size < w6.heap.size := by rw [hw6]; simp
    have HVX_6 : Hid (w6.heap[w5.heap.size]? = some (.cells #[.string name, .string key, .int .i64 sz, .slice pa5 l.length ca5, .bool up, .slice pb5 ps.length cb5, .slice pc5 ss.length cc5, .int .i64 st, .int .i64 y0, .int .i64 y1, .string y2, .string y3, .slice pd5 ims.length cd5, .slice pe5 es.length ce5] 49)) := hid (by rw [hw6]; exact heap_alloc_new _ _)
    have HW6 := hid hw6
    have HB0_6 := hid (HB0_5.out.trans (hb6.mono HB0_5.out.size))
    have HB3_6 := hid (HB3_5.out.trans (hb6.mono HB3_5.out.size))
    have HB5_6 := hid (HB5_5.out.trans (hb6.mono HB5_5.out.size))
    have HVA_6 := hid ((hb6.block _ (by omega)).trans HVA_5.out)
    clear HB0_5 HB3_5 HB5_5
    clear hw6 hb6
    go_wp2_with (go_at_call 11; rw [← HW6.out]; refine (CI.out _ _ _ _ _ _ _ _ _ _ _ (HFx1.out.on HB5_6.out) (HFx2.out.on HB5_6.out) (HFx3.out.on HB5_6.out) (HFx4.out.on HB5_6.out) (HFx5.out.on HB5_6.out) (tab_on HTAB.out hG HB0_6.out) (Nat.lt_of_lt_of_le hG HB0_6.out.size) (Num.tab_stays HB0_6.out HPW.out)).mono ?_; rintro e w7 ⟨rfl, hb7⟩; refine Hid.out ?_)
    refine hid ?_
    clear HVA_5
    have hz7 := hb7.size
    have HB0_7 := hid (HB0_6.out.trans (hb7.mono HB0_6.out.size))
    have HB3_7 := hid (HB3_6.out.trans (hb7.mono HB3_6.out.size))
    have HB5_7 := hid (HB5_6.out.trans (hb7.mono HB5_6.out.size))
    have HVA_7 := hid ((hb7.block _ (by omega)).trans HVA_6.out)
    have HVX_7 := hid ((hb7.block _ (by omega)).trans HVX_6.out)
    clear HB0_6 HB3_6 HB5_6 HVA_6 HVX_6
    clear hb7
    have CT := hid (fun W (h : Below w7.heap.size w7 W) => TA.out W (HF1.out.on (HB0_7.out.trans (h.mono HB0_7.out.size))) (HF2.out.on (HB0_7.out.trans (h.mono HB0_7.out.size))) (HF3.out.on (HB0_7.out.trans (h.mono HB0_7.out.size))) (HF4.out.on (HB0_7.out.trans (h.mono HB0_7.out.size))) (HF5.out.on (HB0_7.out.trans (h.mono HB0_7.out.size))))
    have CE := hid (fun e1 e2 e3 e4 e5 W (h : Below w7.heap.size w7 W) (i1 : RowIn W e1 l) (i2 : TextsAt W e2 ps) (i3 : FRow encSeal 4 W e3 ss) (i4 : FRow encImage 2 W e4 ims) (i5 : FRow encEvent 2 W e5 es) => CQ.out _ _ _ _ _ e1 e2 e3 e4 e5 W ((HFx1.out.on HB5_7.out).on h) ((HFx2.out.on HB5_7.out).on h) ((HFx3.out.on HB5_7.out).on h) ((HFx4.out.on HB5_7.out).on h) ((HFx5.out.on HB5_7.out).on h) i1 i2 i3 i4 i5)
    have k_X_0 : ∀ W : World, Below w7.heap.size w7 W → W.cell? ⟨_, 0, none⟩ = some (.string name) := fun W hW => (cell_of_row _ _ 0 _ _ _ ((hW.block _ (by omega)).trans HVX_7.out)).trans rfl
    have k_X_1 : ∀ W : World, Below w7.heap.size w7 W → W.cell? ⟨_, 1, none⟩ = some (.string key) := fun W hW => (cell_of_row _ _ 1 _ _ _ ((hW.block _ (by omega)).trans HVX_7.out)).trans rfl
    have k_X_2 : ∀ W : World, Below w7.heap.size w7 W → W.cell? ⟨_, 2, none⟩ = some (.int .i64 sz) := fun W hW => (cell_of_row _ _ 2 _ _ _ ((hW.block _ (by omega)).trans HVX_7.out)).trans rfl
    have k_X_3 : ∀ W : World, Below w7.heap.size w7 W → W.cell? ⟨_, 3, none⟩ = some (.slice pa5 l.length ca5) := fun W hW => (cell_of_row _ _ 3 _ _ _ ((hW.block _ (by omega)).trans HVX_7.out)).trans rfl
    have k_X_4 : ∀ W : World, Below w7.heap.size w7 W → W.cell? ⟨_, 4, none⟩ = some (.bool up) := fun W hW => (cell_of_row _ _ 4 _ _ _ ((hW.block _ (by omega)).trans HVX_7.out)).trans rfl
    have k_X_5 : ∀ W : World, Below w7.heap.size w7 W → W.cell? ⟨_, 5, none⟩ = some (.slice pb5 ps.length cb5) := fun W hW => (cell_of_row _ _ 5 _ _ _ ((hW.block _ (by omega)).trans HVX_7.out)).trans rfl
    have k_X_6 : ∀ W : World, Below w7.heap.size w7 W → W.cell? ⟨_, 6, none⟩ = some (.slice pc5 ss.length cc5) := fun W hW => (cell_of_row _ _ 6 _ _ _ ((hW.block _ (by omega)).trans HVX_7.out)).trans rfl
    have k_X_7 : ∀ W : World, Below w7.heap.size w7 W → W.cell? ⟨_, 7, none⟩ = some (.int .i64 st) := fun W hW => (cell_of_row _ _ 7 _ _ _ ((hW.block _ (by omega)).trans HVX_7.out)).trans rfl
    have k_X_8 : ∀ W : World, Below w7.heap.size w7 W → W.cell? ⟨_, 8, none⟩ = some (.int .i64 y0) := fun W hW => (cell_of_row _ _ 8 _ _ _ ((hW.block _ (by omega)).trans HVX_7.out)).trans rfl
    have k_X_9 : ∀ W : World, Below w7.heap.size w7 W → W.cell? ⟨_, 9, none⟩ = some (.int .i64 y1) := fun W hW => (cell_of_row _ _ 9 _ _ _ ((hW.block _ (by omega)).trans HVX_7.out)).trans rfl
    have k_X_10 : ∀ W : World, Below w7.heap.size w7 W → W.cell? ⟨_, 10, none⟩ = some (.string y2) := fun W hW => (cell_of_row _ _ 10 _ _ _ ((hW.block _ (by omega)).trans HVX_7.out)).trans rfl
    have k_X_11 : ∀ W : World, Below w7.heap.size w7 W → W.cell? ⟨_, 11, none⟩ = some (.string y3) := fun W hW => (cell_of_row _ _ 11 _ _ _ ((hW.block _ (by omega)).trans HVX_7.out)).trans rfl
    have k_X_12 : ∀ W : World, Below w7.heap.size w7 W → W.cell? ⟨_, 12, none⟩ = some (.slice pd5 ims.length cd5) := fun W hW => (cell_of_row _ _ 12 _ _ _ ((hW.block _ (by omega)).trans HVX_7.out)).trans rfl
    have k_X_13 : ∀ W : World, Below w7.heap.size w7 W → W.cell? ⟨_, 13, none⟩ = some (.slice pe5 es.length ce5) := fun W hW => (cell_of_row _ _ 13 _ _ _ ((hW.block _ (by omega)).trans HVX_7.out)).trans rfl
    have k_A_0 : ∀ W : World, Below w7.heap.size w7 W → W.cell? ⟨_, 0, none⟩ = some (.string name) := fun W hW => (cell_of_row _ _ 0 _ _ _ ((hW.block _ (by omega)).trans HVA_7.out)).trans rfl
    have k_A_1 : ∀ W : World, Below w7.heap.size w7 W → W.cell? ⟨_, 1, none⟩ = some (.string key) := fun W hW => (cell_of_row _ _ 1 _ _ _ ((hW.block _ (by omega)).trans HVA_7.out)).trans rfl
    have k_A_2 : ∀ W : World, Below w7.heap.size w7 W → W.cell? ⟨_, 2, none⟩ = some (.int .i64 sz) := fun W hW => (cell_of_row _ _ 2 _ _ _ ((hW.block _ (by omega)).trans HVA_7.out)).trans rfl
    have k_A_3 : ∀ W : World, Below w7.heap.size w7 W → W.cell? ⟨_, 3, none⟩ = some (.slice p0 l.length c0) := fun W hW => (cell_of_row _ _ 3 _ _ _ ((hW.block _ (by omega)).trans HVA_7.out)).trans rfl
    have k_A_4 : ∀ W : World, Below w7.heap.size w7 W → W.cell? ⟨_, 4, none⟩ = some (.bool up) := fun W hW => (cell_of_row _ _ 4 _ _ _ ((hW.block _ (by omega)).trans HVA_7.out)).trans rfl
    have k_A_5 : ∀ W : World, Below w7.heap.size w7 W → W.cell? ⟨_, 5, none⟩ = some (.slice q0 ps.length d0) := fun W hW => (cell_of_row _ _ 5 _ _ _ ((hW.block _ (by omega)).trans HVA_7.out)).trans rfl
    have k_A_6 : ∀ W : World, Below w7.heap.size w7 W → W.cell? ⟨_, 6, none⟩ = some (.slice u0 ss.length v0) := fun W hW => (cell_of_row _ _ 6 _ _ _ ((hW.block _ (by omega)).trans HVA_7.out)).trans rfl
    have k_A_7 : ∀ W : World, Below w7.heap.size w7 W → W.cell? ⟨_, 7, none⟩ = some (.int .i64 st) := fun W hW => (cell_of_row _ _ 7 _ _ _ ((hW.block _ (by omega)).trans HVA_7.out)).trans rfl
    have k_A_8 : ∀ W : World, Below w7.heap.size w7 W → W.cell? ⟨_, 8, none⟩ = some (.int .i64 y0) := fun W hW => (cell_of_row _ _ 8 _ _ _ ((hW.block _ (by omega)).trans HVA_7.out)).trans rfl
    have k_A_9 : ∀ W : World, Below w7.heap.size w7 W → W.cell? ⟨_, 9, none⟩ = some (.int .i64 y1) := fun W hW => (cell_of_row _ _ 9 _ _ _ ((hW.block _ (by omega)).trans HVA_7.out)).trans rfl
    have k_A_10 : ∀ W : World, Below w7.heap.size w7 W → W.cell? ⟨_, 10, none⟩ = some (.string y2) := fun W hW => (cell_of_row _ _ 10 _ _ _ ((hW.block _ (by omega)).trans HVA_7.out)).trans rfl
    have k_A_11 : ∀ W : World, Below w7.heap.size w7 W → W.cell? ⟨_, 11, none⟩ = some (.string y3) := fun W hW => (cell_of_row _ _ 11 _ _ _ ((hW.block _ (by omega)).trans HVA_7.out)).trans rfl
    have k_A_12 : ∀ W : World, Below w7.heap.size w7 W → W.cell? ⟨_, 12, none⟩ = some (.slice m0 ims.length n0) := fun W hW => (cell_of_row _ _ 12 _ _ _ ((hW.block _ (by omega)).trans HVA_7.out)).trans rfl
    have k_A_13 : ∀ W : World, Below w7.heap.size w7 W → W.cell? ⟨_, 13, none⟩ = some (.slice g0 es.length h0) := fun W hW => (cell_of_row _ _ 13 _ _ _ ((hW.block _ (by omega)).trans HVA_7.out)).trans rfl
    go_wp2
    go_region_held3 (fun w' => Below w7.heap.size w7 w') (first | with_reducible assumption | exact Below.drew (Below.refl _ _) | exact below_step (by assumption) (by simp) (by assumption)) ((first | (go_at_call 10; refine (CT.out _ (by assumption)).mono ?_; rintro e x1 ⟨t1, t2, t3, t4, t5, rfl, hy1, i1, i2, i3, i4, i5⟩) | (go_at_call 12; refine (CE.out _ _ _ _ _ _ (by assumption) i1 i2 i3 i4 i5).mono ?_; rintro e x2 ⟨rfl, hy2⟩)))
    rename_i hS
    have hb8 := hS
    clear k_X_0 k_X_1 k_X_2 k_X_3 k_X_4 k_X_5 k_X_6 k_X_7 k_X_8 k_X_9 k_X_10 k_X_11 k_X_12 k_X_13 k_A_0 k_A_1 k_A_2 k_A_3 k_A_4 k_A_5 k_A_6 k_A_7 k_A_8 k_A_9 k_A_10 k_A_11 k_A_12 k_A_13
    generalize x2 = w8 at *
    clear hS
    have hz8 := hb8.size
    have HB0_8 := hid (HB0_7.out.trans (hb8.mono HB0_7.out.size))
    have HB3_8 := hid (HB3_7.out.trans (hb8.mono HB3_7.out.size))
    have HB5_8 := hid (HB5_7.out.trans (hb8.mono HB5_7.out.size))
    have HVA_8 := hid ((hb8.block _ (by omega)).trans HVA_7.out)
    have HVX_8 := hid ((hb8.block _ (by omega)).trans HVX_7.out)
    clear HB0_7 HB3_7 HB5_7 HVA_7 HVX_7
    clear hb8
    clear hy1 i1 i2 i3 i4 i5 hy2
    go_wp2
    go_ret
    exact ⟨rfl, HB0_8.out⟩
end Go.Proofs.YtnkaabgjfdbdoaaGreatDoor
