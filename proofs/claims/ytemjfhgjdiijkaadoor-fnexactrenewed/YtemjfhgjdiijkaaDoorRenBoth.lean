/- Renewed, the specification's and the program's. -/
import Derived.Test.YtemjfhgjdiijkaaDoorCertBoth
namespace Go.Proofs.YtemjfhgjdiijkaaDoor
open Go.RowKit
open Go.Lib (hid)

/-- Is there a renewed Cert, and its Sign. -/
def renO (name key : ByteArray) (f u : Int) (sign secret : ByteArray) (u2 : Int) : Bool × List UInt8 :=
  if cformB name key f u sign = true then certO secret.data.toList name key f u2 else (false, [])

set_option maxRecDepth 20000 in
set_option maxHeartbeats 4000000 in
theorem renewed_spec (name key : ByteArray) (f u : Int) (sign secret : ByteArray) (u2 : Int) (hk : key.size ≤ 1048576) (hs : sign.size ≤ 1048576) (w : World) :
    Calls Tryd.prog 22 #[.agg #[.string name, .string key, .int .i64 f, .int .i64 u, .string sign], .string secret, .int .i64 u2] w fun e w' => e = .returned (.tuple #[certV name key f u2 (renO name key f u sign secret u2), .bool (renO name key f u sign secret u2).1]) ∧ Below w.heap.size w w' := by
  have HO : Hid (renO name key f u sign secret u2 = if cformB name key f u sign = true then certO secret.data.toList name key f u2 else (false, [])) := hid rfl
  have CF := hid (fun W => cform_spec name key f u sign hk hs W)
  have CB := hid (fun W => certby_spec secret name key f u2 hk W)
  clear hk hs
  generalize cformB name key f u sign = fb at *
  generalize renO name key f u sign secret u2 = ro at *
  have HB0_0 : Hid (Below w.heap.size w w) := hid (Below.refl _ _)
  have hz0 : w.heap.size ≤ w.heap.size := Nat.le_refl _
  obtain ⟨w1, hw1⟩ : ∃ W, W = w.alloc (.cells #[.string name, .string key, .int .i64 f, .int .i64 u, .string sign] 23) := ⟨_, rfl⟩
  have hb1 : Below w.heap.size w w1 := by rw [hw1]; exact (Below.refl _ _).alloc (Nat.le_refl _) _
  have hz1 : w.heap.size < w1.heap.size := by rw [hw1]; simp
  have HVC_1 : Hid (w1.heap[w.heap.size]? = some (.cells #[.string name, .string key, .int .i64 f, .int .i64 u, .string sign] 23)) := hid (by rw [hw1]; exact heap_alloc_new _ _)
  have HW1 := hid hw1
  have HB0_1 := hid (HB0_0.out.trans (hb1.mono HB0_0.out.size))
  clear hw1 hb1
  obtain ⟨w2, hw2⟩ : ∃ W, W = w1.alloc (.cells #[.string ⟨#[]⟩, .string ⟨#[]⟩, .int .i64 0, .int .i64 0, .string ⟨#[]⟩] 23) := ⟨_, rfl⟩
  have hb2 : Below w1.heap.size w1 w2 := by rw [hw2]; exact (Below.refl _ _).alloc (Nat.le_refl _) _
  have hz2 : w1.heap.size < w2.heap.size := by rw [hw2]; simp
  have HVR_2 : Hid (w2.heap[w1.heap.size]? = some (.cells #[.string ⟨#[]⟩, .string ⟨#[]⟩, .int .i64 0, .int .i64 0, .string ⟨#[]⟩] 23)) := hid (by rw [hw2]; exact heap_alloc_new _ _)
  have HW2 := hid hw2
  have HB0_2 := hid (HB0_1.out.trans (hb2.mono HB0_1.out.size))
  have HVC_2 := hid ((hb2.block _ (by omega)).trans HVC_1.out)
  clear HB0_1
  clear hw2 hb2
  have hR : w1.heap.size = w.heap.size + 1 := by rw [HW1.out]; simp
  rw [hR] at HVR_2
  have HRZ := hid hR
  clear hR
  cases fb with
  | false =>
    have HZ : Hid (ro.1 = false) := hid (by rw [HO.out, if_neg (by decide)])
    go_enter Tryd.func22, Tryd.ntmps22
    go_wp2_with (go_at_call 34; rw [← HW1.out]; rw [← HW2.out]; refine (CF.out _).mono ?_; rintro e w3 ⟨rfl, hb3⟩; refine Hid.out ?_)
    refine hid ?_
    clear HVC_1
    have hz3 := hb3.size
    have HB0_3 := hid (HB0_2.out.trans (hb3.mono HB0_2.out.size))
    have HVC_3 := hid ((hb3.block _ (by omega)).trans HVC_2.out)
    have HVR_3 := hid ((hb3.block _ (by omega)).trans HVR_2.out)
    clear HB0_2 HVC_2 HVR_2
    clear hb3
    have r0 := (cell_of_row _ _ 0 _ _ _ HVR_3.out).trans rfl
    have fz0 := c5_thaw HVR_3.out 0
    have r1 := (cell_of_row _ _ 1 _ _ _ HVR_3.out).trans rfl
    have fz1 := c5_thaw HVR_3.out 1
    have r2 := (cell_of_row _ _ 2 _ _ _ HVR_3.out).trans rfl
    have fz2 := c5_thaw HVR_3.out 2
    have r3 := (cell_of_row _ _ 3 _ _ _ HVR_3.out).trans rfl
    have fz3 := c5_thaw HVR_3.out 3
    have r4 := (cell_of_row _ _ 4 _ _ _ HVR_3.out).trans rfl
    have fz4 := c5_thaw HVR_3.out 4
    go_wp2
    refine bodyPost_ret (v := .tuple #[.agg #[.string ⟨#[]⟩, .string ⟨#[]⟩, .int .i64 0, .int .i64 0, .string ⟨#[]⟩], .bool false]) (by simp [results, Tryd.results22, go_sem, r0, r1, r2, r3, r4]) rfl ⟨by rw [certV_false HZ.out, HZ.out], ?_⟩
    exact c5_below HB0_3.out (Nat.le_succ _) _ _ _ _ _
  | true =>
    have HZ : Hid (ro = certO secret.data.toList name key f u2) := hid (by rw [HO.out, if_pos rfl])
    obtain ⟨q0, q1, q2, q3, q4, hv⟩ := certV_parts name key f u2 (certO secret.data.toList name key f u2)
    obtain ⟨ok, hok⟩ : ∃ ok, (certO secret.data.toList name key f u2).1 = ok := ⟨_, rfl⟩
    have HV := hid hv
    have HOK := hid hok
    rw [hv, hok] at CB
    clear hv hok
    go_enter Tryd.func22, Tryd.ntmps22
    go_wp2_with (go_at_call 34; rw [← HW1.out]; rw [← HW2.out]; refine (CF.out _).mono ?_; rintro e w3 ⟨rfl, hb3⟩; refine Hid.out ?_)
    refine hid ?_
    clear HVC_1
    have hz3 := hb3.size
    have HB0_3 := hid (HB0_2.out.trans (hb3.mono HB0_2.out.size))
    have HVC_3 := hid ((hb3.block _ (by omega)).trans HVC_2.out)
    have HVR_3 := hid ((hb3.block _ (by omega)).trans HVR_2.out)
    clear HB0_2 HVC_2 HVR_2
    clear hb3
    have k_C_0 := (cell_of_row _ _ 0 _ _ _ HVC_3.out).trans rfl
    have k_C_1 := (cell_of_row _ _ 1 _ _ _ HVC_3.out).trans rfl
    have k_C_2 := (cell_of_row _ _ 2 _ _ _ HVC_3.out).trans rfl
    have k_C_3 := (cell_of_row _ _ 3 _ _ _ HVC_3.out).trans rfl
    have k_C_4 := (cell_of_row _ _ 4 _ _ _ HVC_3.out).trans rfl
    go_wp2_with (go_at_call 10; refine (CB.out _).mono ?_; rintro e w4 ⟨rfl, hb4⟩; refine Hid.out ?_)
    refine hid ?_
    clear k_C_0 k_C_1 k_C_2 k_C_3 k_C_4
    have hz4 := hb4.size
    have HB0_4 := hid (HB0_3.out.trans (hb4.mono HB0_3.out.size))
    have HVC_4 := hid ((hb4.block _ (by omega)).trans HVC_3.out)
    have HVR_4 := hid ((hb4.block _ (by omega)).trans HVR_3.out)
    clear HB0_3 HVC_3 HVR_3
    clear hb4
    have r0 := (cell_of_row _ _ 0 _ _ _ HVR_4.out).trans rfl
    have fz0 := c5_thaw HVR_4.out 0
    have r1 := (cell_of_row _ _ 1 _ _ _ HVR_4.out).trans rfl
    have fz1 := c5_thaw HVR_4.out 1
    have r2 := (cell_of_row _ _ 2 _ _ _ HVR_4.out).trans rfl
    have fz2 := c5_thaw HVR_4.out 2
    have r3 := (cell_of_row _ _ 3 _ _ _ HVR_4.out).trans rfl
    have fz3 := c5_thaw HVR_4.out 3
    have r4 := (cell_of_row _ _ 4 _ _ _ HVR_4.out).trans rfl
    have fz4 := c5_thaw HVR_4.out 4
    go_wp2
    refine bodyPost_ret (v := .tuple #[.agg #[.string q0, .string q1, .int .i64 q2, .int .i64 q3, .string q4], .bool ok]) (by simp [results, Tryd.results22, go_sem, r0, r1, r2, r3, r4]) rfl ⟨by rw [HZ.out, HV.out, HOK.out], ?_⟩
    exact c5_below HB0_4.out (Nat.le_succ _) _ _ _ _ _

set_option maxRecDepth 20000 in
set_option maxHeartbeats 4000000 in
theorem renewed_impl (name key : ByteArray) (f u : Int) (sign secret : ByteArray) (u2 : Int) (w : World) (hT : Tab w) (hG : 0 < w.heap.size) (hP : Lib.TabIs Tryd.prog w "internal/strconv.uint64pow10" .u64 Lib.pow10Tab) :
    Calls Tryd.prog 23 #[.agg #[.string name, .string key, .int .i64 f, .int .i64 u, .string sign], .string secret, .int .i64 u2] w fun e w' => e = .returned (.tuple #[certV name key f u2 (renO name key f u sign secret u2), .bool (renO name key f u sign secret u2).1]) ∧ Below w.heap.size w w' := by
  have HO : Hid (renO name key f u sign secret u2 = if cformB name key f u sign = true then certO secret.data.toList name key f u2 else (false, [])) := hid rfl
  have HTAB := hid hT
  have HPW := hid hP
  have CF := hid (fun W hT hG => cform_impl name key f u sign W hT hG)
  have CB := hid (fun W hT hG hP => certby_impl secret name key f u2 W hT hG hP)
  clear hT hP
  generalize cformB name key f u sign = fb at *
  generalize renO name key f u sign secret u2 = ro at *
  have HB0_0 : Hid (Below w.heap.size w w) := hid (Below.refl _ _)
  have hz0 : w.heap.size ≤ w.heap.size := Nat.le_refl _
  obtain ⟨w1, hw1⟩ : ∃ W, W = w.alloc (.cells #[.string name, .string key, .int .i64 f, .int .i64 u, .string sign] 23) := ⟨_, rfl⟩
  have hb1 : Below w.heap.size w w1 := by rw [hw1]; exact (Below.refl _ _).alloc (Nat.le_refl _) _
  have hz1 : w.heap.size < w1.heap.size := by rw [hw1]; simp
  have HVC_1 : Hid (w1.heap[w.heap.size]? = some (.cells #[.string name, .string key, .int .i64 f, .int .i64 u, .string sign] 23)) := hid (by rw [hw1]; exact heap_alloc_new _ _)
  have HW1 := hid hw1
  have HB0_1 := hid (HB0_0.out.trans (hb1.mono HB0_0.out.size))
  clear hw1 hb1
  obtain ⟨w2, hw2⟩ : ∃ W, W = w1.alloc (.cells #[.string ⟨#[]⟩, .string ⟨#[]⟩, .int .i64 0, .int .i64 0, .string ⟨#[]⟩] 23) := ⟨_, rfl⟩
  have hb2 : Below w1.heap.size w1 w2 := by rw [hw2]; exact (Below.refl _ _).alloc (Nat.le_refl _) _
  have hz2 : w1.heap.size < w2.heap.size := by rw [hw2]; simp
  have HVR_2 : Hid (w2.heap[w1.heap.size]? = some (.cells #[.string ⟨#[]⟩, .string ⟨#[]⟩, .int .i64 0, .int .i64 0, .string ⟨#[]⟩] 23)) := hid (by rw [hw2]; exact heap_alloc_new _ _)
  have HW2 := hid hw2
  have HB0_2 := hid (HB0_1.out.trans (hb2.mono HB0_1.out.size))
  have HVC_2 := hid ((hb2.block _ (by omega)).trans HVC_1.out)
  clear HB0_1
  clear hw2 hb2
  have hR : w1.heap.size = w.heap.size + 1 := by rw [HW1.out]; simp
  rw [hR] at HVR_2
  have HRZ := hid hR
  clear hR
  cases fb with
  | false =>
    have HZ : Hid (ro.1 = false) := hid (by rw [HO.out, if_neg (by decide)])
    go_enter Tryd.func23, Tryd.ntmps23
    go_wp2_with (go_at_call 36; rw [← HW1.out]; rw [← HW2.out]; refine (CF.out _ (tab_on HTAB.out hG HB0_2.out) (Nat.lt_of_lt_of_le hG HB0_2.out.size)).mono ?_; rintro e w3 ⟨rfl, hb3⟩; refine Hid.out ?_)
    refine hid ?_
    clear HVC_1
    have hz3 := hb3.size
    have HB0_3 := hid (HB0_2.out.trans (hb3.mono HB0_2.out.size))
    have HVC_3 := hid ((hb3.block _ (by omega)).trans HVC_2.out)
    have HVR_3 := hid ((hb3.block _ (by omega)).trans HVR_2.out)
    clear HB0_2 HVC_2 HVR_2
    clear hb3
    have r0 := (cell_of_row _ _ 0 _ _ _ HVR_3.out).trans rfl
    have fz0 := c5_thaw HVR_3.out 0
    have r1 := (cell_of_row _ _ 1 _ _ _ HVR_3.out).trans rfl
    have fz1 := c5_thaw HVR_3.out 1
    have r2 := (cell_of_row _ _ 2 _ _ _ HVR_3.out).trans rfl
    have fz2 := c5_thaw HVR_3.out 2
    have r3 := (cell_of_row _ _ 3 _ _ _ HVR_3.out).trans rfl
    have fz3 := c5_thaw HVR_3.out 3
    have r4 := (cell_of_row _ _ 4 _ _ _ HVR_3.out).trans rfl
    have fz4 := c5_thaw HVR_3.out 4
    go_wp2
    refine bodyPost_ret (v := .tuple #[.agg #[.string ⟨#[]⟩, .string ⟨#[]⟩, .int .i64 0, .int .i64 0, .string ⟨#[]⟩], .bool false]) (by simp [results, Tryd.results23, go_sem, r0, r1, r2, r3, r4]) rfl ⟨by rw [certV_false HZ.out, HZ.out], ?_⟩
    exact c5_below HB0_3.out (Nat.le_succ _) _ _ _ _ _
  | true =>
    have HZ : Hid (ro = certO secret.data.toList name key f u2) := hid (by rw [HO.out, if_pos rfl])
    obtain ⟨q0, q1, q2, q3, q4, hv⟩ := certV_parts name key f u2 (certO secret.data.toList name key f u2)
    obtain ⟨ok, hok⟩ : ∃ ok, (certO secret.data.toList name key f u2).1 = ok := ⟨_, rfl⟩
    have HV := hid hv
    have HOK := hid hok
    rw [hv, hok] at CB
    clear hv hok
    go_enter Tryd.func23, Tryd.ntmps23
    go_wp2_with (go_at_call 36; rw [← HW1.out]; rw [← HW2.out]; refine (CF.out _ (tab_on HTAB.out hG HB0_2.out) (Nat.lt_of_lt_of_le hG HB0_2.out.size)).mono ?_; rintro e w3 ⟨rfl, hb3⟩; refine Hid.out ?_)
    refine hid ?_
    clear HVC_1
    have hz3 := hb3.size
    have HB0_3 := hid (HB0_2.out.trans (hb3.mono HB0_2.out.size))
    have HVC_3 := hid ((hb3.block _ (by omega)).trans HVC_2.out)
    have HVR_3 := hid ((hb3.block _ (by omega)).trans HVR_2.out)
    clear HB0_2 HVC_2 HVR_2
    clear hb3
    have k_C_0 := (cell_of_row _ _ 0 _ _ _ HVC_3.out).trans rfl
    have k_C_1 := (cell_of_row _ _ 1 _ _ _ HVC_3.out).trans rfl
    have k_C_2 := (cell_of_row _ _ 2 _ _ _ HVC_3.out).trans rfl
    have k_C_3 := (cell_of_row _ _ 3 _ _ _ HVC_3.out).trans rfl
    have k_C_4 := (cell_of_row _ _ 4 _ _ _ HVC_3.out).trans rfl
    go_wp2_with (go_at_call 11; refine (CB.out _ (tab_on HTAB.out hG HB0_3.out) (Nat.lt_of_lt_of_le hG HB0_3.out.size) (Num.tab_stays HB0_3.out HPW.out)).mono ?_; rintro e w4 ⟨rfl, hb4⟩; refine Hid.out ?_)
    refine hid ?_
    clear k_C_0 k_C_1 k_C_2 k_C_3 k_C_4
    have hz4 := hb4.size
    have HB0_4 := hid (HB0_3.out.trans (hb4.mono HB0_3.out.size))
    have HVC_4 := hid ((hb4.block _ (by omega)).trans HVC_3.out)
    have HVR_4 := hid ((hb4.block _ (by omega)).trans HVR_3.out)
    clear HB0_3 HVC_3 HVR_3
    clear hb4
    have r0 := (cell_of_row _ _ 0 _ _ _ HVR_4.out).trans rfl
    have fz0 := c5_thaw HVR_4.out 0
    have r1 := (cell_of_row _ _ 1 _ _ _ HVR_4.out).trans rfl
    have fz1 := c5_thaw HVR_4.out 1
    have r2 := (cell_of_row _ _ 2 _ _ _ HVR_4.out).trans rfl
    have fz2 := c5_thaw HVR_4.out 2
    have r3 := (cell_of_row _ _ 3 _ _ _ HVR_4.out).trans rfl
    have fz3 := c5_thaw HVR_4.out 3
    have r4 := (cell_of_row _ _ 4 _ _ _ HVR_4.out).trans rfl
    have fz4 := c5_thaw HVR_4.out 4
    go_wp2
    refine bodyPost_ret (v := .tuple #[.agg #[.string q0, .string q1, .int .i64 q2, .int .i64 q3, .string q4], .bool ok]) (by simp [results, Tryd.results23, go_sem, r0, r1, r2, r3, r4]) rfl ⟨by rw [HZ.out, HV.out, HOK.out], ?_⟩
    exact c5_below HB0_4.out (Nat.le_succ _) _ _ _ _ _
end Go.Proofs.YtemjfhgjdiijkaaDoor
