/- The law on Trusted, walked: it answers true. -/
import Derived.Test.YtnkaabgjfdbdoaaGreatDoorPackTru
import Derived.Test.YtnkaabgjfdbdoaaGreatDoorDevSz
import Derived.Test.YtnkaabgjfdbdoaaGreatDoorStDevice
import Derived.Test.YtnkaabgjfdbdoaaGreatDoorToDevice
import Derived.Test.YtnkaabgjfdbdoaaGreatDoorStVault
import Derived.Test.YtnkaabgjfdbdoaaGreatDoorPackRead
import Derived.Test.YtnkaabgjfdbdoaaGreatDoorDevHelp
import Derived.Test.YtnkaabgjfdbdoaaGreatDoorDevOkSpec
import Derived.Test.YtnkaabgjfdbdoaaGreatDoorDevOkImpl
import Derived.Test.YtnkaabgjfdbdoaaGreatDoorPackRoot
import Derived.Test.YtnkaabgjfdbdoaaGreatDoorRootOpen
import Derived.Test.YtnkaabgjfdbdoaaGreatDoorPackVlt
import Derived.Deep.RegionHeld3
namespace Go.Proofs.YtnkaabgjfdbdoaaGreatDoor
open Go.RowKit
open Go.Lib (hid)

set_option maxRecDepth 20000 in
set_option maxHeartbeats 4000000 in
theorem law_trusted (name key : ByteArray) (hname : name.size ≤ 9223372036854775807) (hkey : key.size ≤ 9223372036854775807) (sz : Int) (l : List Int) (hm : l.length ≤ maxLen) (up : Bool) (ps : List (List UInt8)) (hs : ∀ p ∈ ps, p.length ≤ 9223372036854775807) (hn : ps.length ≤ 9223372036854775807) (ss : List SealD) (ts : ∀ e ∈ ss, tameSeal e) (ns : ss.length ≤ maxLen) (st y0 y1 : Int) (y2 y3 : ByteArray) (z2 : y2.size ≤ 9223372036854775807) (z3 : y3.size ≤ 9223372036854775807) (ims : List ImageD) (ti : ∀ e ∈ ims, tameImage e) (ni : ims.length ≤ maxLen) (es : List EventD) (te : ∀ e ∈ es, tameEvent e) (ne : es.length ≤ maxLen) (ls : List ImageD) (tl : ∀ e ∈ ls, tameImage e) (nl : ls.length ≤ maxLen) (a1 a2 a3 a4 a5 a6 : Value) (w : World) (h1 : ArgInts w a1 l) (h2 : ArgAt w a2 ps) (h3 : FArg encSeal 4 w a3 ss) (h4 : FArg encImage 2 w a4 ims) (h5 : FArg encEvent 2 w a5 es) (h6 : FArg encImage 2 w a6 ls) (hT : Tab w) (hG : 0 < w.heap.size) (hP : Lib.TabIs Tryz.prog w "internal/strconv.uint64pow10" .u64 Lib.pow10Tab) :
    Calls Tryz.prog 4 #[.agg #[.string name, .string key, .int .i64 sz, a1, .bool up, a2, a3, .int .i64 st, .int .i64 y0, .int .i64 y1, .string y2, .string y3, a4, a5], a6] w fun e w' => e = .returned (.bool true) ∧ Below w.heap.size w w' := by
  have HF1 := hid h1
  have HF2 := hid h2
  have HF3 := hid h3
  have HF4 := hid h4
  have HF5 := hid h5
  have HF6 := hid h6
  have HTAB := hid hT
  have HPW := hid hP
  obtain ⟨p0, c0, rfl, _⟩ := h1
  obtain ⟨q0, d0, rfl, _⟩ := h2
  obtain ⟨u0, v0, rfl, _⟩ := h3
  obtain ⟨m0, n0, rfl, _⟩ := h4
  obtain ⟨g0, h0, rfl, _⟩ := h5
  obtain ⟨k0, j0, rfl, _⟩ := h6
  have CZ := hid (fun W (h1 : ArgInts W (.slice p0 l.length c0) l) (h2 : ArgAt W (.slice q0 ps.length d0) ps) (h3 : FArg encSeal 4 W (.slice u0 ss.length v0) ss) (h4 : FArg encImage 2 W (.slice m0 ims.length n0) ims) (h5 : FArg encEvent 2 W (.slice g0 es.length h0) es) =>
    sz_device name key sz p0 l.length c0 up q0 ps.length d0 u0 ss.length v0 st y0 y1 y2 y3 ims m0 n0 es g0 h0 hname ti ni te ne (key.size + l.length + (ps.length + total ps)) (ss.length + used szSealN ss + szSealN ⟨y0, y1, y2, y3⟩) W h4 h5
      (fun W' hb k hk => sz_rootk key hkey sz l hm up ps hs hn k hk _ _ W' (h1.on hb) (h2.on hb))
      (fun W' hb k hk => sz_Vault ss st y0 y1 y2 y3 ts ns z2 z3 k hk _ W' (h3.on hb)))
  have CL := hid (fun (k : Nat) hk W h => sz_Images ls tl nl k hk (.slice k0 ls.length j0) W h)
  have HTI := hid ti
  have HTL := hid tl
  clear hT hP hs ts ti te tl
  have HB0_0 : Hid (Below w.heap.size w w) := hid (Below.refl _ _)
  have hz0 : w.heap.size ≤ w.heap.size := Nat.le_refl _
  obtain ⟨w1, hw1⟩ : ∃ W, W = w.alloc (.cells #[.string name, .string key, .int .i64 sz, .slice p0 l.length c0, .bool up, .slice q0 ps.length d0, .slice u0 ss.length v0, .int .i64 st, .int .i64 y0, .int .i64 y1, .string y2, .string y3, .slice m0 ims.length n0, .slice g0 es.length h0] 36) := ⟨_, rfl⟩
  have hb1 : Below w.heap.size w w1 := by rw [hw1]; exact (Below.refl _ _).alloc (Nat.le_refl _) _
  have hz1 : w.heap.size < w1.heap.size := by rw [hw1]; simp
  have HVA_1 : Hid (w1.heap[w.heap.size]? = some (.cells #[.string name, .string key, .int .i64 sz, .slice p0 l.length c0, .bool up, .slice q0 ps.length d0, .slice u0 ss.length v0, .int .i64 st, .int .i64 y0, .int .i64 y1, .string y2, .string y3, .slice m0 ims.length n0, .slice g0 es.length h0] 36)) := hid (by rw [hw1]; exact heap_alloc_new _ _)
  have HW1 := hid hw1
  have HB0_1 := hid (HB0_0.out.trans (hb1.mono HB0_0.out.size))
  clear hw1 hb1
  go_enter Tryz.func4, Tryz.ntmps4
  go_wp2_with (go_at_call 8; rw [← HW1.out]; refine (CZ.out _ (HF1.out.on HB0_1.out) (HF2.out.on HB0_1.out) (HF3.out.on HB0_1.out) (HF4.out.on HB0_1.out) (HF5.out.on HB0_1.out)).mono ?_; rintro e w2 ⟨⟨r, rfl, hr⟩, hb2⟩; refine Hid.out ?_)
  refine hid ?_
  have hz2 := hb2.size
  have HB0_2 := hid (HB0_1.out.trans (hb2.mono HB0_1.out.size))
  have HVA_2 := hid ((hb2.block _ (by omega)).trans HVA_1.out)
  clear HB0_1 HVA_1
  clear hb2
  rcases hr with hr | ⟨hr, htot⟩
  · go_wp2
    go_ret
    exact ⟨rfl, HB0_2.out⟩
  · skip
    have hr2 : ¬ r < 0 := by omega
    obtain ⟨rn, rfl⟩ : ∃ rn : Nat, r = (rn : Int) := ⟨r.toNat, by omega⟩
    have hrk : rn ≤ 1048576 := by omega
    go_wp2_with (go_at_call 13; refine (CL.out rn hrk _ (HF6.out.on HB0_2.out)).mono ?_; rintro e w3 ⟨⟨r2, rfl, hq⟩, hb3⟩; refine Hid.out ?_)
    refine hid ?_
    have hz3 := hb3.size
    have HB0_3 := hid (HB0_2.out.trans (hb3.mono HB0_2.out.size))
    have HVA_3 := hid ((hb3.block _ (by omega)).trans HVA_2.out)
    clear HB0_2 HVA_2
    clear hb3
    rcases hq with hq | ⟨hq, hto2⟩
    · go_wp2
      go_ret
      exact ⟨rfl, HB0_3.out⟩
    · skip
      have hr4 : ¬ r2 < 0 := by omega
      have b6 : ls.length ≤ 1048576 := by omega
      have b1 : l.length ≤ 1048576 := by omega
      have b2 : ps.length ≤ 1048576 := by omega
      have b3 : ss.length ≤ 1048576 := by omega
      have b4 : ims.length ≤ 1048576 := by omega
      have b5 : es.length ≤ 1048576 := by omega
      have s2 : ∀ p ∈ ps, p.length ≤ 1048576 := fun p hp => by have := total_mem hp; omega
      have s3 : ∀ e ∈ ss, e.x2.size ≤ 1048576 ∧ e.x3.size ≤ 1048576 := fun e he => by have h := used_mem (sz := szSealN) he; unfold szSealN at h htot; constructor <;> omega
      have s5 : ∀ e ∈ es, e.x1.size ≤ 1048576 := fun e he => by have h := used_mem (sz := szEventN) he; unfold szEventN at h htot; omega
      have sy : y2.size ≤ 1048576 ∧ y3.size ≤ 1048576 := by have h : szSealN ⟨y0, y1, y2, y3⟩ = y2.size + y3.size := rfl; constructor <;> omega
      have TA := hid (fun W (h1 : ArgInts W (.slice p0 l.length c0) l) (h2 : ArgAt W (.slice q0 ps.length d0) ps) (h3 : FArg encSeal 4 W (.slice u0 ss.length v0) ss) (h4 : FArg encImage 2 W (.slice m0 ims.length n0) ims) (h5 : FArg encEvent 2 W (.slice g0 es.length h0) es) =>
        to_device name key sz l p0 l.length c0 up ps q0 ps.length d0 ss u0 ss.length v0 st y0 y1 y2 y3 ims b4 m0 n0 es b5 g0 h0 W h4 h5
          (fun W' hb => to_root key sz l b1 up ps b2 _ _ W' (h1.on hb) (h2.on hb)) (fun W' hb => to_Vault ss st y0 y1 y2 y3 b3 _ W' (h3.on hb)))
      have CS := hid (fun p1 c1 p2 c2 p3 c3 p4 c4 p5 c5 W (h1 : RowIn W (.slice p1 l.length c1) l) (h2 : TextsAt W (.slice p2 ps.length c2) ps) (h3 : FRow encSeal 4 W (.slice p3 ss.length c3) ss) (h4 : FRow encImage 2 W (.slice p4 ims.length c4) ims) (h5 : FRow encEvent 2 W (.slice p5 es.length c5) es) =>
        devOk_spec name key sz l p1 c1 up ps p2 c2 (ss.map fun _ => ()) p3 c3 st y0 y1 y2 y3 ims p4 c4 es s5 b5 p5 c5 (rootB key.data.toList sz l up ps) (vaultB ss st ⟨y0, y1, y2, y3⟩) W h2 h4 h5 b4
          (fun W' hb => rootOk_spec key sz l b1 up ps s2 b2 _ _ W' (h1.on hb) (h2.on hb)) (fun W' hb => by rw [List.length_map]; exact vault_spec ss b3 s3 st y0 y1 y2 y3 sy.1 sy.2 _ W' (h3.on hb)))
      have CI := hid (fun p1 c1 p2 c2 p3 c3 p4 c4 p5 c5 W (h1 : RowIn W (.slice p1 l.length c1) l) (h2 : TextsAt W (.slice p2 ps.length c2) ps) (h3 : FRow encSeal 4 W (.slice p3 ss.length c3) ss) (h4 : FRow encImage 2 W (.slice p4 ims.length c4) ims) (h5 : FRow encEvent 2 W (.slice p5 es.length c5) es) hT hG hP =>
        devOk_impl name key sz l p1 c1 up ps b2 p2 c2 (ss.map fun _ => ()) p3 c3 st y0 y1 y2 y3 ims p4 c4 es b5 p5 c5 (rootB key.data.toList sz l up ps) (vaultB ss st ⟨y0, y1, y2, y3⟩) W h2 h4 h5 b4 hT hG hP
          (fun W' hb => rootOk_impl key sz l b1 up ps b2 _ _ W' (h1.on hb) (h2.on hb) (tab_on hT hG hb) (Nat.lt_of_lt_of_le hG hb.size)) (fun W' hb => by rw [List.length_map]; exact vault_impl ss b3 st y0 y1 y2 y3 _ W' (h3.on hb) (tab_on hT hG hb) (Nat.lt_of_lt_of_le hG hb.size)))
      have TL := hid (fun W h => to_Images ls b6 (.slice k0 ls.length j0) W h)
      have CQL := hid (fun e1 e2 W h1 h2 => eq_Images ls (by omega) e1 e2 W h1 h2)
      rw [List.length_map] at CS CI
      have CQ := hid (fun a1 a2 a3 a4 a5 e1 e2 e3 e4 e5 W h1 h2 h3 h4 h5 i1 i2 i3 i4 i5 => eq_device name key sz l (by omega) up ps (by omega) ss (by omega) st y0 y1 y2 y3 ims (by omega) es (by omega) a1 a2 a3 a4 a5 e1 e2 e3 e4 e5 W h1 h2 h3 h4 h5 i1 i2 i3 i4 i5)
      generalize devB (nameB name.data.toList) (rootB key.data.toList sz l up ps) (vaultB ss st ⟨y0, y1, y2, y3⟩) up ims es ps = rb at *
      have KS := hid (fun p1 c1 p2 c2 p3 c3 p4 c4 p5 c5 p6 c6 W (h1 : RowIn W (.slice p1 l.length c1) l) (h2 : TextsAt W (.slice p2 ps.length c2) ps) (h3 : FRow encSeal 4 W (.slice p3 ss.length c3) ss) (h4 : FRow encImage 2 W (.slice p4 ims.length c4) ims) (h5 : FRow encEvent 2 W (.slice p5 es.length c5) es) (h6 : FRow encImage 2 W (.slice p6 ls.length c6) ls) => trusted_spec name key sz p1 l.length c1 up p2 ps.length c2 p3 ss.length c3 st y0 y1 y2 y3 ims b4 p4 c4 p5 es.length c5 ls b6 (.slice p6 ls.length c6) rb W h4 h6 (fun W' hb => CS.out p1 c1 p2 c2 p3 c3 p4 c4 p5 c5 W' (h1.on hb) (h2.on hb) (h3.on hb) (h4.on hb) (h5.on hb)))
      have KI := hid (fun p1 c1 p2 c2 p3 c3 p4 c4 p5 c5 p6 c6 W (h1 : RowIn W (.slice p1 l.length c1) l) (h2 : TextsAt W (.slice p2 ps.length c2) ps) (h3 : FRow encSeal 4 W (.slice p3 ss.length c3) ss) (h4 : FRow encImage 2 W (.slice p4 ims.length c4) ims) (h5 : FRow encEvent 2 W (.slice p5 es.length c5) es) (h6 : FRow encImage 2 W (.slice p6 ls.length c6) ls) hT hG hP => trusted_impl name key sz p1 l.length c1 up p2 ps.length c2 p3 ss.length c3 st y0 y1 y2 y3 ims b4 p4 c4 p5 es.length c5 ls b6 (.slice p6 ls.length c6) rb W h4 h6 HTI.out HTL.out (fun W' hb => CI.out p1 c1 p2 c2 p3 c3 p4 c4 p5 c5 W' (h1.on hb) (h2.on hb) (h3.on hb) (h4.on hb) (h5.on hb) (tab_on hT hG hb) (Nat.lt_of_lt_of_le hG hb.size) (Num.tab_stays hb hP)))
      clear CS CI
      generalize truB rb up ims ls = tb at *
      have hbb : (tb != tb) = false := by simp
      clear htot hr s2 s3 s5 hto2 hq
      have k_A_0 := (cell_of_row _ _ 0 _ _ _ HVA_3.out).trans rfl
      have k_A_1 := (cell_of_row _ _ 1 _ _ _ HVA_3.out).trans rfl
      have k_A_2 := (cell_of_row _ _ 2 _ _ _ HVA_3.out).trans rfl
      have k_A_3 := (cell_of_row _ _ 3 _ _ _ HVA_3.out).trans rfl
      have k_A_4 := (cell_of_row _ _ 4 _ _ _ HVA_3.out).trans rfl
      have k_A_5 := (cell_of_row _ _ 5 _ _ _ HVA_3.out).trans rfl
      have k_A_6 := (cell_of_row _ _ 6 _ _ _ HVA_3.out).trans rfl
      have k_A_7 := (cell_of_row _ _ 7 _ _ _ HVA_3.out).trans rfl
      have k_A_8 := (cell_of_row _ _ 8 _ _ _ HVA_3.out).trans rfl
      have k_A_9 := (cell_of_row _ _ 9 _ _ _ HVA_3.out).trans rfl
      have k_A_10 := (cell_of_row _ _ 10 _ _ _ HVA_3.out).trans rfl
      have k_A_11 := (cell_of_row _ _ 11 _ _ _ HVA_3.out).trans rfl
      have k_A_12 := (cell_of_row _ _ 12 _ _ _ HVA_3.out).trans rfl
      have k_A_13 := (cell_of_row _ _ 13 _ _ _ HVA_3.out).trans rfl
      go_wp2_with (go_at_call 10; refine (TA.out _ (HF1.out.on HB0_3.out) (HF2.out.on HB0_3.out) (HF3.out.on HB0_3.out) (HF4.out.on HB0_3.out) (HF5.out.on HB0_3.out)).mono ?_; rintro e w4 ⟨t1, t2, t3, t4, t5, rfl, hb4, f1, f2, f3, f4, f5⟩; refine Hid.out ?_)
      refine hid ?_
      clear k_A_0 k_A_1 k_A_2 k_A_3 k_A_4 k_A_5 k_A_6 k_A_7 k_A_8 k_A_9 k_A_10 k_A_11 k_A_12 k_A_13
      have hz4 := hb4.size
      have HB0_4 := hid (HB0_3.out.trans (hb4.mono HB0_3.out.size))
      have HVA_4 := hid ((hb4.block _ (by omega)).trans HVA_3.out)
      clear HB0_3 HVA_3
      have HB4_4 : Hid (Below w4.heap.size w4 w4) := hid (Below.refl _ _)
      have HFu1 := hid (f1)
      have HFu2 := hid (f2)
      have HFu3 := hid (f3)
      have HFu4 := hid (f4)
      have HFu5 := hid (f5)
      obtain ⟨pa4, ca4, rfl, _, _⟩ := f1
      obtain ⟨pb4, cb4, rfl, _⟩ := f2
      obtain ⟨pc4, cc4, rfl, _, _⟩ := f3
      obtain ⟨pd4, cd4, rfl, _, _⟩ := f4
      obtain ⟨pe4, ce4, rfl, _, _⟩ := f5
      clear hb4
      go_wp2_with (go_at_call 15; refine (TL.out _ (HF6.out.on HB0_4.out)).mono ?_; rintro e w5 ⟨rfl, hb5, ho5⟩; refine Hid.out ?_)
      refine hid ?_
      have hz5 := hb5.size
      have HB0_5 := hid (HB0_4.out.trans (hb5.mono HB0_4.out.size))
      have HB4_5 := hid (HB4_4.out.trans (hb5.mono HB4_4.out.size))
      have HVA_5 := hid ((hb5.block _ (by omega)).trans HVA_4.out)
      clear HB0_4 HB4_4 HVA_4
      have HB5_5 : Hid (Below w5.heap.size w5 w5) := hid (Below.refl _ _)
      have HFv := hid (row_of_own encImage_len ho5)
      clear ho5
      clear hb5
      go_wp2_with (go_at_call 14; refine (KS.out _ _ _ _ _ _ _ _ _ _ _ _ _ (HFu1.out.on HB4_5.out) (HFu2.out.on HB4_5.out) (HFu3.out.on HB4_5.out) (HFu4.out.on HB4_5.out) (HFu5.out.on HB4_5.out) (HFv.out.on HB5_5.out)).mono ?_; rintro e w6 ⟨rfl, hb6⟩; refine Hid.out ?_)
      refine hid ?_
      have hz6 := hb6.size
      have HB0_6 := hid (HB0_5.out.trans (hb6.mono HB0_5.out.size))
      have HB4_6 := hid (HB4_5.out.trans (hb6.mono HB4_5.out.size))
      have HB5_6 := hid (HB5_5.out.trans (hb6.mono HB5_5.out.size))
      have HVA_6 := hid ((hb6.block _ (by omega)).trans HVA_5.out)
      clear HB0_5 HB4_5 HB5_5 HVA_5
      clear hb6
      have k_A_0 := (cell_of_row _ _ 0 _ _ _ HVA_6.out).trans rfl
      have k_A_1 := (cell_of_row _ _ 1 _ _ _ HVA_6.out).trans rfl
      have k_A_2 := (cell_of_row _ _ 2 _ _ _ HVA_6.out).trans rfl
      have k_A_3 := (cell_of_row _ _ 3 _ _ _ HVA_6.out).trans rfl
      have k_A_4 := (cell_of_row _ _ 4 _ _ _ HVA_6.out).trans rfl
      have k_A_5 := (cell_of_row _ _ 5 _ _ _ HVA_6.out).trans rfl
      have k_A_6 := (cell_of_row _ _ 6 _ _ _ HVA_6.out).trans rfl
      have k_A_7 := (cell_of_row _ _ 7 _ _ _ HVA_6.out).trans rfl
      have k_A_8 := (cell_of_row _ _ 8 _ _ _ HVA_6.out).trans rfl
      have k_A_9 := (cell_of_row _ _ 9 _ _ _ HVA_6.out).trans rfl
      have k_A_10 := (cell_of_row _ _ 10 _ _ _ HVA_6.out).trans rfl
      have k_A_11 := (cell_of_row _ _ 11 _ _ _ HVA_6.out).trans rfl
      have k_A_12 := (cell_of_row _ _ 12 _ _ _ HVA_6.out).trans rfl
      have k_A_13 := (cell_of_row _ _ 13 _ _ _ HVA_6.out).trans rfl
      go_wp2_with (go_at_call 10; refine (TA.out _ (HF1.out.on HB0_6.out) (HF2.out.on HB0_6.out) (HF3.out.on HB0_6.out) (HF4.out.on HB0_6.out) (HF5.out.on HB0_6.out)).mono ?_; rintro e w7 ⟨t1, t2, t3, t4, t5, rfl, hb7, f1, f2, f3, f4, f5⟩; refine Hid.out ?_)
      refine hid ?_
      clear k_A_0 k_A_1 k_A_2 k_A_3 k_A_4 k_A_5 k_A_6 k_A_7 k_A_8 k_A_9 k_A_10 k_A_11 k_A_12 k_A_13
      have hz7 := hb7.size
      have HB0_7 := hid (HB0_6.out.trans (hb7.mono HB0_6.out.size))
      have HB4_7 := hid (HB4_6.out.trans (hb7.mono HB4_6.out.size))
      have HB5_7 := hid (HB5_6.out.trans (hb7.mono HB5_6.out.size))
      have HVA_7 := hid ((hb7.block _ (by omega)).trans HVA_6.out)
      clear HB0_6 HB4_6 HB5_6 HVA_6
      have HB7_7 : Hid (Below w7.heap.size w7 w7) := hid (Below.refl _ _)
      have HFx1 := hid (f1)
      have HFx2 := hid (f2)
      have HFx3 := hid (f3)
      have HFx4 := hid (f4)
      have HFx5 := hid (f5)
      obtain ⟨pa7, ca7, rfl, _, _⟩ := f1
      obtain ⟨pb7, cb7, rfl, _⟩ := f2
      obtain ⟨pc7, cc7, rfl, _, _⟩ := f3
      obtain ⟨pd7, cd7, rfl, _, _⟩ := f4
      obtain ⟨pe7, ce7, rfl, _, _⟩ := f5
      clear hb7
      obtain ⟨w8, hw8⟩ : ∃ W, W = w7.alloc (.cells #[.string name, .string key, .int .i64 sz, .slice pa7 l.length ca7, .bool up, .slice pb7 ps.length cb7, .slice pc7 ss.length cc7, .int .i64 st, .int .i64 y0, .int .i64 y1, .string y2, .string y3, .slice pd7 ims.length cd7, .slice pe7 es.length ce7] 49) := ⟨_, rfl⟩
      have hb8 : Below w7.heap.size w7 w8 := by rw [hw8]; exact (Below.refl _ _).alloc (Nat.le_refl _) _
      have hz8 : w7.heap.size < w8.heap.size := by rw [hw8]; simp
      have HVX_8 : Hid (w8.heap[w7.heap.size]? = some (.cells #[.string name, .string key, .int .i64 sz, .slice pa7 l.length ca7, .bool up, .slice pb7 ps.length cb7, .slice pc7 ss.length cc7, .int .i64 st, .int .i64 y0, .int .i64 y1, .string y2, .string y3, .slice pd7 ims.length cd7, .slice pe7 es.length ce7] 49)) := hid (by rw [hw8]; exact heap_alloc_new _ _)
      have HW8 := hid hw8
      have HB0_8 := hid (HB0_7.out.trans (hb8.mono HB0_7.out.size))
      have HB4_8 := hid (HB4_7.out.trans (hb8.mono HB4_7.out.size))
      have HB5_8 := hid (HB5_7.out.trans (hb8.mono HB5_7.out.size))
      have HB7_8 := hid (HB7_7.out.trans (hb8.mono HB7_7.out.size))
      have HVA_8 := hid ((hb8.block _ (by omega)).trans HVA_7.out)
      clear HB0_7 HB4_7 HB5_7 HB7_7
      clear hw8 hb8
      go_wp2_with (go_at_call 15; rw [← HW8.out]; refine (TL.out _ (HF6.out.on HB0_8.out)).mono ?_; rintro e w9 ⟨rfl, hb9, ho9⟩; refine Hid.out ?_)
      refine hid ?_
      clear HVA_7
      have hz9 := hb9.size
      have HB0_9 := hid (HB0_8.out.trans (hb9.mono HB0_8.out.size))
      have HB4_9 := hid (HB4_8.out.trans (hb9.mono HB4_8.out.size))
      have HB5_9 := hid (HB5_8.out.trans (hb9.mono HB5_8.out.size))
      have HB7_9 := hid (HB7_8.out.trans (hb9.mono HB7_8.out.size))
      have HVA_9 := hid ((hb9.block _ (by omega)).trans HVA_8.out)
      have HVX_9 := hid ((hb9.block _ (by omega)).trans HVX_8.out)
      clear HB0_8 HB4_8 HB5_8 HB7_8 HVA_8 HVX_8
      have HB9_9 : Hid (Below w9.heap.size w9 w9) := hid (Below.refl _ _)
      have HFy := hid (row_of_own encImage_len ho9)
      clear ho9
      clear hb9
      have k_X_0 := (cell_of_row _ _ 0 _ _ _ HVX_9.out).trans rfl
      have k_X_1 := (cell_of_row _ _ 1 _ _ _ HVX_9.out).trans rfl
      have k_X_2 := (cell_of_row _ _ 2 _ _ _ HVX_9.out).trans rfl
      have k_X_3 := (cell_of_row _ _ 3 _ _ _ HVX_9.out).trans rfl
      have k_X_4 := (cell_of_row _ _ 4 _ _ _ HVX_9.out).trans rfl
      have k_X_5 := (cell_of_row _ _ 5 _ _ _ HVX_9.out).trans rfl
      have k_X_6 := (cell_of_row _ _ 6 _ _ _ HVX_9.out).trans rfl
      have k_X_7 := (cell_of_row _ _ 7 _ _ _ HVX_9.out).trans rfl
      have k_X_8 := (cell_of_row _ _ 8 _ _ _ HVX_9.out).trans rfl
      have k_X_9 := (cell_of_row _ _ 9 _ _ _ HVX_9.out).trans rfl
      have k_X_10 := (cell_of_row _ _ 10 _ _ _ HVX_9.out).trans rfl
      have k_X_11 := (cell_of_row _ _ 11 _ _ _ HVX_9.out).trans rfl
      have k_X_12 := (cell_of_row _ _ 12 _ _ _ HVX_9.out).trans rfl
      have k_X_13 := (cell_of_row _ _ 13 _ _ _ HVX_9.out).trans rfl
      go_wp2_with (go_at_call 16; refine (KI.out _ _ _ _ _ _ _ _ _ _ _ _ _ (HFx1.out.on HB7_9.out) (HFx2.out.on HB7_9.out) (HFx3.out.on HB7_9.out) (HFx4.out.on HB7_9.out) (HFx5.out.on HB7_9.out) (HFy.out.on HB9_9.out) (tab_on HTAB.out hG HB0_9.out) (Nat.lt_of_lt_of_le hG HB0_9.out.size) (Num.tab_stays HB0_9.out HPW.out)).mono ?_; rintro e w10 ⟨rfl, hb10⟩; refine Hid.out ?_)
      refine hid ?_
      clear k_X_0 k_X_1 k_X_2 k_X_3 k_X_4 k_X_5 k_X_6 k_X_7 k_X_8 k_X_9 k_X_10 k_X_11 k_X_12 k_X_13
      have hz10 := hb10.size
      have HB0_10 := hid (HB0_9.out.trans (hb10.mono HB0_9.out.size))
      have HB4_10 := hid (HB4_9.out.trans (hb10.mono HB4_9.out.size))
      have HB5_10 := hid (HB5_9.out.trans (hb10.mono HB5_9.out.size))
      have HB7_10 := hid (HB7_9.out.trans (hb10.mono HB7_9.out.size))
      have HB9_10 := hid (HB9_9.out.trans (hb10.mono HB9_9.out.size))
      have HVA_10 := hid ((hb10.block _ (by omega)).trans HVA_9.out)
      have HVX_10 := hid ((hb10.block _ (by omega)).trans HVX_9.out)
      clear HB0_9 HB4_9 HB5_9 HB7_9 HB9_9 HVA_9 HVX_9
      clear hb10
      have CT := hid (fun W (h : Below w10.heap.size w10 W) => TA.out W (HF1.out.on (HB0_10.out.trans (h.mono HB0_10.out.size))) (HF2.out.on (HB0_10.out.trans (h.mono HB0_10.out.size))) (HF3.out.on (HB0_10.out.trans (h.mono HB0_10.out.size))) (HF4.out.on (HB0_10.out.trans (h.mono HB0_10.out.size))) (HF5.out.on (HB0_10.out.trans (h.mono HB0_10.out.size))))
      have CE := hid (fun e1 e2 e3 e4 e5 W (h : Below w10.heap.size w10 W) (i1 : RowIn W e1 l) (i2 : TextsAt W e2 ps) (i3 : FRow encSeal 4 W e3 ss) (i4 : FRow encImage 2 W e4 ims) (i5 : FRow encEvent 2 W e5 es) => CQ.out _ _ _ _ _ e1 e2 e3 e4 e5 W ((HFx1.out.on HB7_10.out).on h) ((HFx2.out.on HB7_10.out).on h) ((HFx3.out.on HB7_10.out).on h) ((HFx4.out.on HB7_10.out).on h) ((HFx5.out.on HB7_10.out).on h) i1 i2 i3 i4 i5)
      have k_X_0 : ∀ W : World, Below w10.heap.size w10 W → W.cell? ⟨_, 0, none⟩ = some (.string name) := fun W hW => (cell_of_row _ _ 0 _ _ _ ((hW.block _ (by omega)).trans HVX_10.out)).trans rfl
      have k_X_1 : ∀ W : World, Below w10.heap.size w10 W → W.cell? ⟨_, 1, none⟩ = some (.string key) := fun W hW => (cell_of_row _ _ 1 _ _ _ ((hW.block _ (by omega)).trans HVX_10.out)).trans rfl
      have k_X_2 : ∀ W : World, Below w10.heap.size w10 W → W.cell? ⟨_, 2, none⟩ = some (.int .i64 sz) := fun W hW => (cell_of_row _ _ 2 _ _ _ ((hW.block _ (by omega)).trans HVX_10.out)).trans rfl
      have k_X_3 : ∀ W : World, Below w10.heap.size w10 W → W.cell? ⟨_, 3, none⟩ = some (.slice pa7 l.length ca7) := fun W hW => (cell_of_row _ _ 3 _ _ _ ((hW.block _ (by omega)).trans HVX_10.out)).trans rfl
      have k_X_4 : ∀ W : World, Below w10.heap.size w10 W → W.cell? ⟨_, 4, none⟩ = some (.bool up) := fun W hW => (cell_of_row _ _ 4 _ _ _ ((hW.block _ (by omega)).trans HVX_10.out)).trans rfl
      have k_X_5 : ∀ W : World, Below w10.heap.size w10 W → W.cell? ⟨_, 5, none⟩ = some (.slice pb7 ps.length cb7) := fun W hW => (cell_of_row _ _ 5 _ _ _ ((hW.block _ (by omega)).trans HVX_10.out)).trans rfl
      have k_X_6 : ∀ W : World, Below w10.heap.size w10 W → W.cell? ⟨_, 6, none⟩ = some (.slice pc7 ss.length cc7) := fun W hW => (cell_of_row _ _ 6 _ _ _ ((hW.block _ (by omega)).trans HVX_10.out)).trans rfl
      have k_X_7 : ∀ W : World, Below w10.heap.size w10 W → W.cell? ⟨_, 7, none⟩ = some (.int .i64 st) := fun W hW => (cell_of_row _ _ 7 _ _ _ ((hW.block _ (by omega)).trans HVX_10.out)).trans rfl
      have k_X_8 : ∀ W : World, Below w10.heap.size w10 W → W.cell? ⟨_, 8, none⟩ = some (.int .i64 y0) := fun W hW => (cell_of_row _ _ 8 _ _ _ ((hW.block _ (by omega)).trans HVX_10.out)).trans rfl
      have k_X_9 : ∀ W : World, Below w10.heap.size w10 W → W.cell? ⟨_, 9, none⟩ = some (.int .i64 y1) := fun W hW => (cell_of_row _ _ 9 _ _ _ ((hW.block _ (by omega)).trans HVX_10.out)).trans rfl
      have k_X_10 : ∀ W : World, Below w10.heap.size w10 W → W.cell? ⟨_, 10, none⟩ = some (.string y2) := fun W hW => (cell_of_row _ _ 10 _ _ _ ((hW.block _ (by omega)).trans HVX_10.out)).trans rfl
      have k_X_11 : ∀ W : World, Below w10.heap.size w10 W → W.cell? ⟨_, 11, none⟩ = some (.string y3) := fun W hW => (cell_of_row _ _ 11 _ _ _ ((hW.block _ (by omega)).trans HVX_10.out)).trans rfl
      have k_X_12 : ∀ W : World, Below w10.heap.size w10 W → W.cell? ⟨_, 12, none⟩ = some (.slice pd7 ims.length cd7) := fun W hW => (cell_of_row _ _ 12 _ _ _ ((hW.block _ (by omega)).trans HVX_10.out)).trans rfl
      have k_X_13 : ∀ W : World, Below w10.heap.size w10 W → W.cell? ⟨_, 13, none⟩ = some (.slice pe7 es.length ce7) := fun W hW => (cell_of_row _ _ 13 _ _ _ ((hW.block _ (by omega)).trans HVX_10.out)).trans rfl
      have k_A_0 : ∀ W : World, Below w10.heap.size w10 W → W.cell? ⟨_, 0, none⟩ = some (.string name) := fun W hW => (cell_of_row _ _ 0 _ _ _ ((hW.block _ (by omega)).trans HVA_10.out)).trans rfl
      have k_A_1 : ∀ W : World, Below w10.heap.size w10 W → W.cell? ⟨_, 1, none⟩ = some (.string key) := fun W hW => (cell_of_row _ _ 1 _ _ _ ((hW.block _ (by omega)).trans HVA_10.out)).trans rfl
      have k_A_2 : ∀ W : World, Below w10.heap.size w10 W → W.cell? ⟨_, 2, none⟩ = some (.int .i64 sz) := fun W hW => (cell_of_row _ _ 2 _ _ _ ((hW.block _ (by omega)).trans HVA_10.out)).trans rfl
      have k_A_3 : ∀ W : World, Below w10.heap.size w10 W → W.cell? ⟨_, 3, none⟩ = some (.slice p0 l.length c0) := fun W hW => (cell_of_row _ _ 3 _ _ _ ((hW.block _ (by omega)).trans HVA_10.out)).trans rfl
      have k_A_4 : ∀ W : World, Below w10.heap.size w10 W → W.cell? ⟨_, 4, none⟩ = some (.bool up) := fun W hW => (cell_of_row _ _ 4 _ _ _ ((hW.block _ (by omega)).trans HVA_10.out)).trans rfl
      have k_A_5 : ∀ W : World, Below w10.heap.size w10 W → W.cell? ⟨_, 5, none⟩ = some (.slice q0 ps.length d0) := fun W hW => (cell_of_row _ _ 5 _ _ _ ((hW.block _ (by omega)).trans HVA_10.out)).trans rfl
      have k_A_6 : ∀ W : World, Below w10.heap.size w10 W → W.cell? ⟨_, 6, none⟩ = some (.slice u0 ss.length v0) := fun W hW => (cell_of_row _ _ 6 _ _ _ ((hW.block _ (by omega)).trans HVA_10.out)).trans rfl
      have k_A_7 : ∀ W : World, Below w10.heap.size w10 W → W.cell? ⟨_, 7, none⟩ = some (.int .i64 st) := fun W hW => (cell_of_row _ _ 7 _ _ _ ((hW.block _ (by omega)).trans HVA_10.out)).trans rfl
      have k_A_8 : ∀ W : World, Below w10.heap.size w10 W → W.cell? ⟨_, 8, none⟩ = some (.int .i64 y0) := fun W hW => (cell_of_row _ _ 8 _ _ _ ((hW.block _ (by omega)).trans HVA_10.out)).trans rfl
      have k_A_9 : ∀ W : World, Below w10.heap.size w10 W → W.cell? ⟨_, 9, none⟩ = some (.int .i64 y1) := fun W hW => (cell_of_row _ _ 9 _ _ _ ((hW.block _ (by omega)).trans HVA_10.out)).trans rfl
      have k_A_10 : ∀ W : World, Below w10.heap.size w10 W → W.cell? ⟨_, 10, none⟩ = some (.string y2) := fun W hW => (cell_of_row _ _ 10 _ _ _ ((hW.block _ (by omega)).trans HVA_10.out)).trans rfl
      have k_A_11 : ∀ W : World, Below w10.heap.size w10 W → W.cell? ⟨_, 11, none⟩ = some (.string y3) := fun W hW => (cell_of_row _ _ 11 _ _ _ ((hW.block _ (by omega)).trans HVA_10.out)).trans rfl
      have k_A_12 : ∀ W : World, Below w10.heap.size w10 W → W.cell? ⟨_, 12, none⟩ = some (.slice m0 ims.length n0) := fun W hW => (cell_of_row _ _ 12 _ _ _ ((hW.block _ (by omega)).trans HVA_10.out)).trans rfl
      have k_A_13 : ∀ W : World, Below w10.heap.size w10 W → W.cell? ⟨_, 13, none⟩ = some (.slice g0 es.length h0) := fun W hW => (cell_of_row _ _ 13 _ _ _ ((hW.block _ (by omega)).trans HVA_10.out)).trans rfl
      go_wp2
      go_region_held3 (fun w' => Below w10.heap.size w10 w') (first | with_reducible assumption | exact Below.drew (Below.refl _ _) | exact below_step (by assumption) (by simp) (by assumption)) ((first | (go_at_call 10; refine (CT.out _ (by assumption)).mono ?_; rintro e x1 ⟨t1, t2, t3, t4, t5, rfl, hy1, i1, i2, i3, i4, i5⟩) | (go_at_call 12; refine (CE.out _ _ _ _ _ _ (by assumption) i1 i2 i3 i4 i5).mono ?_; rintro e x2 ⟨rfl, hy2⟩)))
      rename_i hS
      have hb11 := hS
      clear k_X_0 k_X_1 k_X_2 k_X_3 k_X_4 k_X_5 k_X_6 k_X_7 k_X_8 k_X_9 k_X_10 k_X_11 k_X_12 k_X_13 k_A_0 k_A_1 k_A_2 k_A_3 k_A_4 k_A_5 k_A_6 k_A_7 k_A_8 k_A_9 k_A_10 k_A_11 k_A_12 k_A_13
      generalize x2 = w11 at *
      clear hS
      have hz11 := hb11.size
      have HB0_11 := hid (HB0_10.out.trans (hb11.mono HB0_10.out.size))
      have HB4_11 := hid (HB4_10.out.trans (hb11.mono HB4_10.out.size))
      have HB5_11 := hid (HB5_10.out.trans (hb11.mono HB5_10.out.size))
      have HB7_11 := hid (HB7_10.out.trans (hb11.mono HB7_10.out.size))
      have HB9_11 := hid (HB9_10.out.trans (hb11.mono HB9_10.out.size))
      have HVA_11 := hid ((hb11.block _ (by omega)).trans HVA_10.out)
      have HVX_11 := hid ((hb11.block _ (by omega)).trans HVX_10.out)
      clear HB0_10 HB4_10 HB5_10 HB7_10 HB9_10 HVA_10 HVX_10
      clear hb11
      clear hy1 i1 i2 i3 i4 i5 hy2
      go_wp2_with (go_at_call 15; refine (TL.out _ (HF6.out.on HB0_11.out)).mono ?_; rintro e w12 ⟨rfl, hb12, ho12⟩; refine Hid.out ?_)
      refine hid ?_
      have hz12 := hb12.size
      have HB0_12 := hid (HB0_11.out.trans (hb12.mono HB0_11.out.size))
      have HB4_12 := hid (HB4_11.out.trans (hb12.mono HB4_11.out.size))
      have HB5_12 := hid (HB5_11.out.trans (hb12.mono HB5_11.out.size))
      have HB7_12 := hid (HB7_11.out.trans (hb12.mono HB7_11.out.size))
      have HB9_12 := hid (HB9_11.out.trans (hb12.mono HB9_11.out.size))
      have HVA_12 := hid ((hb12.block _ (by omega)).trans HVA_11.out)
      have HVX_12 := hid ((hb12.block _ (by omega)).trans HVX_11.out)
      clear HB0_11 HB4_11 HB5_11 HB7_11 HB9_11 HVA_11 HVX_11
      have HB12_12 : Hid (Below w12.heap.size w12 w12) := hid (Below.refl _ _)
      have HFz := hid (row_of_own encImage_len ho12)
      clear ho12
      clear hb12
      go_wp2_with (go_at_call 17; refine (CQL.out _ _ _ (HFy.out.on HB9_12.out) (HFz.out.on HB12_12.out)).mono ?_; rintro e w13 ⟨rfl, hb13⟩; refine Hid.out ?_)
      refine hid ?_
      have hz13 := hb13.size
      have HB0_13 := hid (HB0_12.out.trans (hb13.mono HB0_12.out.size))
      have HB4_13 := hid (HB4_12.out.trans (hb13.mono HB4_12.out.size))
      have HB5_13 := hid (HB5_12.out.trans (hb13.mono HB5_12.out.size))
      have HB7_13 := hid (HB7_12.out.trans (hb13.mono HB7_12.out.size))
      have HB9_13 := hid (HB9_12.out.trans (hb13.mono HB9_12.out.size))
      have HB12_13 := hid (HB12_12.out.trans (hb13.mono HB12_12.out.size))
      have HVA_13 := hid ((hb13.block _ (by omega)).trans HVA_12.out)
      have HVX_13 := hid ((hb13.block _ (by omega)).trans HVX_12.out)
      clear HB0_12 HB4_12 HB5_12 HB7_12 HB9_12 HB12_12 HVA_12 HVX_12
      clear hb13
      go_wp2
      go_ret
      exact ⟨rfl, HB0_13.out⟩
end Go.Proofs.YtnkaabgjfdbdoaaGreatDoor
