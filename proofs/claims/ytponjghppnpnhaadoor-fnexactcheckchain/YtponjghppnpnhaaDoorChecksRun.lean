/- The checks of a Cert run: each closure's answer; the program's CheckCert. -/
import Derived.Test.YtponjghppnpnhaaDoorClosures
namespace Go.Proofs.YtponjghppnpnhaaDoor
open Go.RowKit
open Go.Lib (hid)

set_option maxRecDepth 20000 in
set_option maxHeartbeats 2000000 in
theorem cc1_calls (name key : ByteArray) (f u : Int) (sign : ByteArray) (issuer : ByteArray) (b0 : Nat) (w : World) (h0 : b0 < w.heap.size) (k0 : w.cell? ⟨b0, 0, none⟩ = some (.string issuer)) (hT : Tab w) (hG : 0 < w.heap.size) (hP : Lib.TabIs Tryd.prog w "internal/strconv.uint64pow10" .u64 Lib.pow10Tab) :
    Calls Tryd.prog 121 #[.agg #[.string name, .string key, .int .i64 f, .int .i64 u, .string sign], .pointer (some ⟨b0, 0, none⟩)] w fun e w' => e = .returned (.bool (isOfB issuer name key f u sign)) ∧ Below w.heap.size w w' := by
  have HTAB := hid hT
  have HPW := hid hP
  clear hT hP
  have HB0_0 : Hid (Below w.heap.size w w) := hid (Below.refl _ _)
  have hz0 : w.heap.size ≤ w.heap.size := Nat.le_refl _
  obtain ⟨w1, hw1⟩ : ∃ W, W = w.alloc (.cells #[.string name, .string key, .int .i64 f, .int .i64 u, .string sign] 33) := ⟨_, rfl⟩
  have hb1 : Below w.heap.size w w1 := by rw [hw1]; exact (Below.refl _ _).alloc (Nat.le_refl _) _
  have hz1 : w.heap.size < w1.heap.size := by rw [hw1]; simp
  have HVC_1 : Hid (w1.heap[w.heap.size]? = some (.cells #[.string name, .string key, .int .i64 f, .int .i64 u, .string sign] 33)) := hid (by rw [hw1]; exact heap_alloc_new _ _)
  have HW1 := hid hw1
  have HB0_1 := hid (HB0_0.out.trans (hb1.mono HB0_0.out.size))
  clear hw1 hb1
  have q0 : (w.alloc (.cells #[.string name, .string key, .int .i64 f, .int .i64 u, .string sign] 33)).cell? ⟨b0, 0, none⟩ = some (.string issuer) := at_on ((Below.refl _ _).alloc (Nat.le_refl _) _) h0 k0
  have CI := hid (fun W hT hG hP => isOf_impl name key f u sign issuer W hT hG hP)
  generalize isOfB issuer name key f u sign = r at *
  go_enter Tryd.func121, Tryd.ntmps121
  go_wp2_with (go_at_call 122; rw [← HW1.out]; refine (CI.out _ (tab_on HTAB.out hG HB0_1.out) (Nat.lt_of_lt_of_le hG HB0_1.out.size) (Num.tab_stays HB0_1.out HPW.out)).mono ?_; rintro e w2 ⟨rfl, hb2⟩; refine Hid.out ?_)
  refine hid ?_
  have hz2 := hb2.size
  have HB0_2 := hid (HB0_1.out.trans (hb2.mono HB0_1.out.size))
  have HVC_2 := hid ((hb2.block _ (by omega)).trans HVC_1.out)
  clear HB0_1 HVC_1
  clear hb2
  go_wp2
  go_ret
  exact ⟨rfl, HB0_2.out⟩

set_option maxRecDepth 20000 in
set_option maxHeartbeats 2000000 in
theorem cc2_calls (name key : ByteArray) (f u : Int) (sign : ByteArray) (now : Int) (b0 : Nat) (w : World) (h0 : b0 < w.heap.size) (k0 : w.cell? ⟨b0, 0, none⟩ = some (.int .i64 now)) :
    Calls Tryd.prog 123 #[.agg #[.string name, .string key, .int .i64 f, .int .i64 u, .string sign], .pointer (some ⟨b0, 0, none⟩)] w fun e w' => e = .returned (.bool (decide (f ≤ now))) ∧ Below w.heap.size w w' := by
  have q0 : (w.alloc (.cells #[.string name, .string key, .int .i64 f, .int .i64 u, .string sign] 33)).cell? ⟨b0, 0, none⟩ = some (.int .i64 now) := at_on ((Below.refl _ _).alloc (Nat.le_refl _) _) h0 k0
  by_cases hc : f ≤ now
  · rw [decide_eq_true hc]
    go_enter Tryd.func123, Tryd.ntmps123
    go_wp2
    go_ret
    exact ⟨by first | rfl | simp [hc] | (simp; omega), (Below.refl _ _).alloc (Nat.le_refl _) _⟩
  · rw [decide_eq_false hc]
    go_enter Tryd.func123, Tryd.ntmps123
    go_wp2
    go_ret
    exact ⟨by first | rfl | simp [hc] | (simp; omega), (Below.refl _ _).alloc (Nat.le_refl _) _⟩

set_option maxRecDepth 20000 in
set_option maxHeartbeats 2000000 in
theorem cc3_calls (name key : ByteArray) (f u : Int) (sign : ByteArray) (now : Int) (b0 : Nat) (w : World) (h0 : b0 < w.heap.size) (k0 : w.cell? ⟨b0, 0, none⟩ = some (.int .i64 now)) :
    Calls Tryd.prog 124 #[.agg #[.string name, .string key, .int .i64 f, .int .i64 u, .string sign], .pointer (some ⟨b0, 0, none⟩)] w fun e w' => e = .returned (.bool (decide (now ≤ u))) ∧ Below w.heap.size w w' := by
  have q0 : (w.alloc (.cells #[.string name, .string key, .int .i64 f, .int .i64 u, .string sign] 33)).cell? ⟨b0, 0, none⟩ = some (.int .i64 now) := at_on ((Below.refl _ _).alloc (Nat.le_refl _) _) h0 k0
  by_cases hc : now ≤ u
  · rw [decide_eq_true hc]
    go_enter Tryd.func124, Tryd.ntmps124
    go_wp2
    go_ret
    exact ⟨by first | rfl | simp [hc] | (simp; omega), (Below.refl _ _).alloc (Nat.le_refl _) _⟩
  · rw [decide_eq_false hc]
    go_enter Tryd.func124, Tryd.ntmps124
    go_wp2
    go_ret
    exact ⟨by first | rfl | simp [hc] | (simp; omega), (Below.refl _ _).alloc (Nat.le_refl _) _⟩

set_option maxRecDepth 20000 in
set_option maxHeartbeats 2000000 in
theorem un_form (name key : ByteArray) (f u : Int) (sign : ByteArray)  (b1 b2 : Nat) (w : World) (h1 : b1 < w.heap.size) (h2 : b2 < w.heap.size) (k1 : w.cell? ⟨b1, 0, none⟩ = some (.func (.func 125) #[] #[])) (k2 : w.cell? ⟨b2, 0, none⟩ = some (.int .i64 1)) (hT : Tab w) (hG : 0 < w.heap.size) (hP : Lib.TabIs Tryd.prog w "internal/strconv.uint64pow10" .u64 Lib.pow10Tab) :
    Calls Tryd.prog 160 #[.agg #[.string name, .string key, .int .i64 f, .int .i64 u, .string sign], .pointer (some ⟨b1, 0, none⟩), .pointer (some ⟨b2, 0, none⟩)] w fun e w' => e = .returned (.int .i64 (if cformB name key f u sign = true then 0 else 1)) ∧ Below w.heap.size w w' := by
  have HTAB := hid hT
  have HPW := hid hP
  clear hT hP
  have HB0_0 : Hid (Below w.heap.size w w) := hid (Below.refl _ _)
  have hz0 : w.heap.size ≤ w.heap.size := Nat.le_refl _
  obtain ⟨w1, hw1⟩ : ∃ W, W = w.alloc (.cells #[.string name, .string key, .int .i64 f, .int .i64 u, .string sign] 33) := ⟨_, rfl⟩
  have hb1 : Below w.heap.size w w1 := by rw [hw1]; exact (Below.refl _ _).alloc (Nat.le_refl _) _
  have hz1 : w.heap.size < w1.heap.size := by rw [hw1]; simp
  have HVC_1 : Hid (w1.heap[w.heap.size]? = some (.cells #[.string name, .string key, .int .i64 f, .int .i64 u, .string sign] 33)) := hid (by rw [hw1]; exact heap_alloc_new _ _)
  have HW1 := hid hw1
  have HB0_1 := hid (HB0_0.out.trans (hb1.mono HB0_0.out.size))
  clear hw1 hb1
  have q1 : (w.alloc (.cells #[.string name, .string key, .int .i64 f, .int .i64 u, .string sign] 33)).cell? ⟨b1, 0, none⟩ = some (.func (.func 125) #[] #[]) := at_on ((Below.refl _ _).alloc (Nat.le_refl _) _) h1 k1
  have HQ2 : Hid (w1.cell? ⟨b2, 0, none⟩ = some (.int .i64 1)) := hid (by rw [HW1.out]; exact at_on ((Below.refl _ _).alloc (Nat.le_refl _) _) h2 k2)
  have hl2 : b2 < w1.heap.size := by omega
  have CI := hid (fun W hT hG => cform_impl name key f u sign W hT hG)
  cases hr : cformB name key f u sign
  case false =>
    rw [hr] at CI
    clear hr
    go_enter Tryd.func160, Tryd.ntmps160
    go_wp2_with (go_at_call 125; rw [← HW1.out]; refine (CI.out _ (tab_on HTAB.out hG HB0_1.out) (Nat.lt_of_lt_of_le hG HB0_1.out.size)).mono ?_; rintro e w2 ⟨rfl, hb2⟩; refine Hid.out ?_)
    refine hid ?_
    have hz2 := hb2.size
    have HBX := hid hb2
    have HB0_2 := hid (HB0_1.out.trans (hb2.mono HB0_1.out.size))
    have HVC_2 := hid ((hb2.block _ (by omega)).trans HVC_1.out)
    clear HB0_1 HVC_1
    clear hb2
    have q2 : w2.cell? ⟨b2, 0, none⟩ = some (.int .i64 1) := at_on HBX.out hl2 HQ2.out
    go_wp2
    go_ret
    exact ⟨rfl, HB0_2.out⟩
  case true =>
    rw [hr] at CI
    clear hr
    go_enter Tryd.func160, Tryd.ntmps160
    go_wp2_with (go_at_call 125; rw [← HW1.out]; refine (CI.out _ (tab_on HTAB.out hG HB0_1.out) (Nat.lt_of_lt_of_le hG HB0_1.out.size)).mono ?_; rintro e w2 ⟨rfl, hb2⟩; refine Hid.out ?_)
    refine hid ?_
    have hz2 := hb2.size
    have HB0_2 := hid (HB0_1.out.trans (hb2.mono HB0_1.out.size))
    have HVC_2 := hid ((hb2.block _ (by omega)).trans HVC_1.out)
    clear HB0_1 HVC_1
    clear hb2
    go_wp2
    go_ret
    exact ⟨rfl, HB0_2.out⟩

set_option maxRecDepth 20000 in
set_option maxHeartbeats 2000000 in
theorem un_sign (name key : ByteArray) (f u : Int) (sign : ByteArray) (issuer : ByteArray) (b0 : Nat) (b1 b2 : Nat) (w : World) (h1 : b1 < w.heap.size) (h2 : b2 < w.heap.size) (h0 : b0 < w.heap.size) (k0 : w.cell? ⟨b0, 0, none⟩ = some (.string issuer)) (k1 : w.cell? ⟨b1, 0, none⟩ = some (.func (.func 121) #[] #[.pointer (some ⟨b0, 0, none⟩)])) (k2 : w.cell? ⟨b2, 0, none⟩ = some (.int .i64 2)) (hT : Tab w) (hG : 0 < w.heap.size) (hP : Lib.TabIs Tryd.prog w "internal/strconv.uint64pow10" .u64 Lib.pow10Tab) :
    Calls Tryd.prog 160 #[.agg #[.string name, .string key, .int .i64 f, .int .i64 u, .string sign], .pointer (some ⟨b1, 0, none⟩), .pointer (some ⟨b2, 0, none⟩)] w fun e w' => e = .returned (.int .i64 (if isOfB issuer name key f u sign = true then 0 else 2)) ∧ Below w.heap.size w w' := by
  have HTAB := hid hT
  have HPW := hid hP
  clear hT hP
  have HB0_0 : Hid (Below w.heap.size w w) := hid (Below.refl _ _)
  have hz0 : w.heap.size ≤ w.heap.size := Nat.le_refl _
  obtain ⟨w1, hw1⟩ : ∃ W, W = w.alloc (.cells #[.string name, .string key, .int .i64 f, .int .i64 u, .string sign] 33) := ⟨_, rfl⟩
  have hb1 : Below w.heap.size w w1 := by rw [hw1]; exact (Below.refl _ _).alloc (Nat.le_refl _) _
  have hz1 : w.heap.size < w1.heap.size := by rw [hw1]; simp
  have HVC_1 : Hid (w1.heap[w.heap.size]? = some (.cells #[.string name, .string key, .int .i64 f, .int .i64 u, .string sign] 33)) := hid (by rw [hw1]; exact heap_alloc_new _ _)
  have HW1 := hid hw1
  have HB0_1 := hid (HB0_0.out.trans (hb1.mono HB0_0.out.size))
  clear hw1 hb1
  have q1 : (w.alloc (.cells #[.string name, .string key, .int .i64 f, .int .i64 u, .string sign] 33)).cell? ⟨b1, 0, none⟩ = some (.func (.func 121) #[] #[.pointer (some ⟨b0, 0, none⟩)]) := at_on ((Below.refl _ _).alloc (Nat.le_refl _) _) h1 k1
  have HQ2 : Hid (w1.cell? ⟨b2, 0, none⟩ = some (.int .i64 2)) := hid (by rw [HW1.out]; exact at_on ((Below.refl _ _).alloc (Nat.le_refl _) _) h2 k2)
  have hl2 : b2 < w1.heap.size := by omega
  have HK0 := hid (fun W (h : Below w.heap.size w W) => at_on h h0 k0)
  have CI := hid (fun W (hW : Below w.heap.size w W) hT hG hP => cc1_calls name key f u sign issuer b0 W (Nat.lt_of_lt_of_le h0 hW.size) (HK0.out W hW) hT hG hP)
  cases hr : isOfB issuer name key f u sign
  case false =>
    rw [hr] at CI
    clear hr
    go_enter Tryd.func160, Tryd.ntmps160
    go_wp2_with (go_at_call 121; rw [← HW1.out]; refine (CI.out _ HB0_1.out (tab_on HTAB.out hG HB0_1.out) (Nat.lt_of_lt_of_le hG HB0_1.out.size) (Num.tab_stays HB0_1.out HPW.out)).mono ?_; rintro e w2 ⟨rfl, hb2⟩; refine Hid.out ?_)
    refine hid ?_
    have hz2 := hb2.size
    have HBX := hid hb2
    have HB0_2 := hid (HB0_1.out.trans (hb2.mono HB0_1.out.size))
    have HVC_2 := hid ((hb2.block _ (by omega)).trans HVC_1.out)
    clear HB0_1 HVC_1
    clear hb2
    have q2 : w2.cell? ⟨b2, 0, none⟩ = some (.int .i64 2) := at_on HBX.out hl2 HQ2.out
    go_wp2
    go_ret
    exact ⟨rfl, HB0_2.out⟩
  case true =>
    rw [hr] at CI
    clear hr
    go_enter Tryd.func160, Tryd.ntmps160
    go_wp2_with (go_at_call 121; rw [← HW1.out]; refine (CI.out _ HB0_1.out (tab_on HTAB.out hG HB0_1.out) (Nat.lt_of_lt_of_le hG HB0_1.out.size) (Num.tab_stays HB0_1.out HPW.out)).mono ?_; rintro e w2 ⟨rfl, hb2⟩; refine Hid.out ?_)
    refine hid ?_
    have hz2 := hb2.size
    have HB0_2 := hid (HB0_1.out.trans (hb2.mono HB0_1.out.size))
    have HVC_2 := hid ((hb2.block _ (by omega)).trans HVC_1.out)
    clear HB0_1 HVC_1
    clear hb2
    go_wp2
    go_ret
    exact ⟨rfl, HB0_2.out⟩

set_option maxRecDepth 20000 in
set_option maxHeartbeats 2000000 in
theorem un_early (name key : ByteArray) (f u : Int) (sign : ByteArray) (now : Int) (b0 : Nat) (b1 b2 : Nat) (w : World) (h1 : b1 < w.heap.size) (h2 : b2 < w.heap.size) (h0 : b0 < w.heap.size) (k0 : w.cell? ⟨b0, 0, none⟩ = some (.int .i64 now)) (k1 : w.cell? ⟨b1, 0, none⟩ = some (.func (.func 123) #[] #[.pointer (some ⟨b0, 0, none⟩)])) (k2 : w.cell? ⟨b2, 0, none⟩ = some (.int .i64 3)) :
    Calls Tryd.prog 160 #[.agg #[.string name, .string key, .int .i64 f, .int .i64 u, .string sign], .pointer (some ⟨b1, 0, none⟩), .pointer (some ⟨b2, 0, none⟩)] w fun e w' => e = .returned (.int .i64 (if decide (f ≤ now) = true then 0 else 3)) ∧ Below w.heap.size w w' := by
  have HB0_0 : Hid (Below w.heap.size w w) := hid (Below.refl _ _)
  have hz0 : w.heap.size ≤ w.heap.size := Nat.le_refl _
  obtain ⟨w1, hw1⟩ : ∃ W, W = w.alloc (.cells #[.string name, .string key, .int .i64 f, .int .i64 u, .string sign] 33) := ⟨_, rfl⟩
  have hb1 : Below w.heap.size w w1 := by rw [hw1]; exact (Below.refl _ _).alloc (Nat.le_refl _) _
  have hz1 : w.heap.size < w1.heap.size := by rw [hw1]; simp
  have HVC_1 : Hid (w1.heap[w.heap.size]? = some (.cells #[.string name, .string key, .int .i64 f, .int .i64 u, .string sign] 33)) := hid (by rw [hw1]; exact heap_alloc_new _ _)
  have HW1 := hid hw1
  have HB0_1 := hid (HB0_0.out.trans (hb1.mono HB0_0.out.size))
  clear hw1 hb1
  have q1 : (w.alloc (.cells #[.string name, .string key, .int .i64 f, .int .i64 u, .string sign] 33)).cell? ⟨b1, 0, none⟩ = some (.func (.func 123) #[] #[.pointer (some ⟨b0, 0, none⟩)]) := at_on ((Below.refl _ _).alloc (Nat.le_refl _) _) h1 k1
  have HQ2 : Hid (w1.cell? ⟨b2, 0, none⟩ = some (.int .i64 3)) := hid (by rw [HW1.out]; exact at_on ((Below.refl _ _).alloc (Nat.le_refl _) _) h2 k2)
  have hl2 : b2 < w1.heap.size := by omega
  have HK0 := hid (fun W (h : Below w.heap.size w W) => at_on h h0 k0)
  have CI := hid (fun W (hW : Below w.heap.size w W) => cc2_calls name key f u sign now b0 W (Nat.lt_of_lt_of_le h0 hW.size) (HK0.out W hW))
  cases hr : decide (f ≤ now)
  case false =>
    rw [hr] at CI
    clear hr
    go_enter Tryd.func160, Tryd.ntmps160
    go_wp2_with (go_at_call 123; rw [← HW1.out]; refine (CI.out _ HB0_1.out).mono ?_; rintro e w2 ⟨rfl, hb2⟩; refine Hid.out ?_)
    refine hid ?_
    have hz2 := hb2.size
    have HBX := hid hb2
    have HB0_2 := hid (HB0_1.out.trans (hb2.mono HB0_1.out.size))
    have HVC_2 := hid ((hb2.block _ (by omega)).trans HVC_1.out)
    clear HB0_1 HVC_1
    clear hb2
    have q2 : w2.cell? ⟨b2, 0, none⟩ = some (.int .i64 3) := at_on HBX.out hl2 HQ2.out
    go_wp2
    go_ret
    exact ⟨rfl, HB0_2.out⟩
  case true =>
    rw [hr] at CI
    clear hr
    go_enter Tryd.func160, Tryd.ntmps160
    go_wp2_with (go_at_call 123; rw [← HW1.out]; refine (CI.out _ HB0_1.out).mono ?_; rintro e w2 ⟨rfl, hb2⟩; refine Hid.out ?_)
    refine hid ?_
    have hz2 := hb2.size
    have HB0_2 := hid (HB0_1.out.trans (hb2.mono HB0_1.out.size))
    have HVC_2 := hid ((hb2.block _ (by omega)).trans HVC_1.out)
    clear HB0_1 HVC_1
    clear hb2
    go_wp2
    go_ret
    exact ⟨rfl, HB0_2.out⟩

set_option maxRecDepth 20000 in
set_option maxHeartbeats 2000000 in
theorem un_late (name key : ByteArray) (f u : Int) (sign : ByteArray) (now : Int) (b0 : Nat) (b1 b2 : Nat) (w : World) (h1 : b1 < w.heap.size) (h2 : b2 < w.heap.size) (h0 : b0 < w.heap.size) (k0 : w.cell? ⟨b0, 0, none⟩ = some (.int .i64 now)) (k1 : w.cell? ⟨b1, 0, none⟩ = some (.func (.func 124) #[] #[.pointer (some ⟨b0, 0, none⟩)])) (k2 : w.cell? ⟨b2, 0, none⟩ = some (.int .i64 4)) :
    Calls Tryd.prog 160 #[.agg #[.string name, .string key, .int .i64 f, .int .i64 u, .string sign], .pointer (some ⟨b1, 0, none⟩), .pointer (some ⟨b2, 0, none⟩)] w fun e w' => e = .returned (.int .i64 (if decide (now ≤ u) = true then 0 else 4)) ∧ Below w.heap.size w w' := by
  have HB0_0 : Hid (Below w.heap.size w w) := hid (Below.refl _ _)
  have hz0 : w.heap.size ≤ w.heap.size := Nat.le_refl _
  obtain ⟨w1, hw1⟩ : ∃ W, W = w.alloc (.cells #[.string name, .string key, .int .i64 f, .int .i64 u, .string sign] 33) := ⟨_, rfl⟩
  have hb1 : Below w.heap.size w w1 := by rw [hw1]; exact (Below.refl _ _).alloc (Nat.le_refl _) _
  have hz1 : w.heap.size < w1.heap.size := by rw [hw1]; simp
  have HVC_1 : Hid (w1.heap[w.heap.size]? = some (.cells #[.string name, .string key, .int .i64 f, .int .i64 u, .string sign] 33)) := hid (by rw [hw1]; exact heap_alloc_new _ _)
  have HW1 := hid hw1
  have HB0_1 := hid (HB0_0.out.trans (hb1.mono HB0_0.out.size))
  clear hw1 hb1
  have q1 : (w.alloc (.cells #[.string name, .string key, .int .i64 f, .int .i64 u, .string sign] 33)).cell? ⟨b1, 0, none⟩ = some (.func (.func 124) #[] #[.pointer (some ⟨b0, 0, none⟩)]) := at_on ((Below.refl _ _).alloc (Nat.le_refl _) _) h1 k1
  have HQ2 : Hid (w1.cell? ⟨b2, 0, none⟩ = some (.int .i64 4)) := hid (by rw [HW1.out]; exact at_on ((Below.refl _ _).alloc (Nat.le_refl _) _) h2 k2)
  have hl2 : b2 < w1.heap.size := by omega
  have HK0 := hid (fun W (h : Below w.heap.size w W) => at_on h h0 k0)
  have CI := hid (fun W (hW : Below w.heap.size w W) => cc3_calls name key f u sign now b0 W (Nat.lt_of_lt_of_le h0 hW.size) (HK0.out W hW))
  cases hr : decide (now ≤ u)
  case false =>
    rw [hr] at CI
    clear hr
    go_enter Tryd.func160, Tryd.ntmps160
    go_wp2_with (go_at_call 124; rw [← HW1.out]; refine (CI.out _ HB0_1.out).mono ?_; rintro e w2 ⟨rfl, hb2⟩; refine Hid.out ?_)
    refine hid ?_
    have hz2 := hb2.size
    have HBX := hid hb2
    have HB0_2 := hid (HB0_1.out.trans (hb2.mono HB0_1.out.size))
    have HVC_2 := hid ((hb2.block _ (by omega)).trans HVC_1.out)
    clear HB0_1 HVC_1
    clear hb2
    have q2 : w2.cell? ⟨b2, 0, none⟩ = some (.int .i64 4) := at_on HBX.out hl2 HQ2.out
    go_wp2
    go_ret
    exact ⟨rfl, HB0_2.out⟩
  case true =>
    rw [hr] at CI
    clear hr
    go_enter Tryd.func160, Tryd.ntmps160
    go_wp2_with (go_at_call 124; rw [← HW1.out]; refine (CI.out _ HB0_1.out).mono ?_; rintro e w2 ⟨rfl, hb2⟩; refine Hid.out ?_)
    refine hid ?_
    have hz2 := hb2.size
    have HB0_2 := hid (HB0_1.out.trans (hb2.mono HB0_1.out.size))
    have HVC_2 := hid ((hb2.block _ (by omega)).trans HVC_1.out)
    clear HB0_1 HVC_1
    clear hb2
    go_wp2
    go_ret
    exact ⟨rfl, HB0_2.out⟩

/-- The code of the first that finds something. -/
def thO (a b : Int) : Int := if a = 0 then b else a

def codeF (name key : ByteArray) (f u : Int) (sign : ByteArray) : Int := if cformB name key f u sign = true then 0 else 1
def codeS (name key : ByteArray) (f u : Int) (sign issuer : ByteArray) : Int := if isOfB issuer name key f u sign = true then 0 else 2
def codeE (f now : Int) : Int := if decide (f ≤ now) = true then 0 else 3
def codeL (u now : Int) : Int := if decide (now ≤ u) = true then 0 else 4

theorem check_chain (name key : ByteArray) (f u : Int) (sign issuer : ByteArray) (now : Int) : thO (thO (thO (codeF name key f u sign) (codeS name key f u sign issuer)) (codeE f now)) (codeL u now) = checkO name key f u sign issuer now := by
  unfold thO codeF codeS codeE codeL checkO
  cases cformB name key f u sign
  · simp
  · cases isOfB issuer name key f u sign
    · simp
    · by_cases h1 : f ≤ now
      · by_cases h2 : now ≤ u
        · simp [h1, h2, show ¬ now < f by omega, show ¬ u < now by omega]
        · simp [h1, h2, show ¬ now < f by omega, show u < now by omega]
      · simp [h1, show now < f by omega]

set_option maxRecDepth 20000 in
set_option maxHeartbeats 2000000 in
theorem th_one (name key : ByteArray) (f u : Int) (sign : ByteArray) (issuer : ByteArray) (b1 b2 : Nat) (x y : Value) (w : World) (h1 : b1 < w.heap.size) (h2 : b2 < w.heap.size) (k1 : w.cell? ⟨b1, 0, none⟩ = some x) (k2 : w.cell? ⟨b2, 0, none⟩ = some y) (hx : FormAt w x) (hy : (SignAt issuer) w y) (hT : Tab w) (hG : 0 < w.heap.size) (hP : Lib.TabIs Tryd.prog w "internal/strconv.uint64pow10" .u64 Lib.pow10Tab) :
    Calls Tryd.prog 163 #[.agg #[.string name, .string key, .int .i64 f, .int .i64 u, .string sign], .pointer (some ⟨b1, 0, none⟩), .pointer (some ⟨b2, 0, none⟩)] w fun e w' => e = .returned (.int .i64 (thO (codeF name key f u sign) (codeS name key f u sign issuer))) ∧ Below w.heap.size w w' := by
  have HTAB := hid hT
  have HPW := hid hP
  clear hT hP
  have HB0_0 : Hid (Below w.heap.size w w) := hid (Below.refl _ _)
  have hz0 : w.heap.size ≤ w.heap.size := Nat.le_refl _
  obtain ⟨w1, hw1⟩ : ∃ W, W = w.alloc (.cells #[.string name, .string key, .int .i64 f, .int .i64 u, .string sign] 33) := ⟨_, rfl⟩
  have hb1 : Below w.heap.size w w1 := by rw [hw1]; exact (Below.refl _ _).alloc (Nat.le_refl _) _
  have hz1 : w.heap.size < w1.heap.size := by rw [hw1]; simp
  have HVC_1 : Hid (w1.heap[w.heap.size]? = some (.cells #[.string name, .string key, .int .i64 f, .int .i64 u, .string sign] 33)) := hid (by rw [hw1]; exact heap_alloc_new _ _)
  have HW1 := hid hw1
  have HB0_1 := hid (HB0_0.out.trans (hb1.mono HB0_0.out.size))
  clear hw1 hb1
  obtain ⟨a1, a2, rfl, m1, m2, n1, n2⟩ := hx
  have C1 := hid (fun W (hW : Below w.heap.size w W) hT hG hP => un_form name key f u sign a1 a2 W (Nat.lt_of_lt_of_le m1 hW.size) (Nat.lt_of_lt_of_le m2 hW.size) (at_on hW m1 n1) (at_on hW m2 n2) hT hG hP)
  rw [show (if cformB name key f u sign = true then (0 : Int) else 1) = codeF name key f u sign from rfl] at C1
  obtain ⟨d1, d2, d0, rfl, o1, o2, o0, p1, p2, p0⟩ := hy
  have C2 := hid (fun W (hW : Below w.heap.size w W) hT hG hP => un_sign name key f u sign issuer d0 d1 d2 W (Nat.lt_of_lt_of_le o1 hW.size) (Nat.lt_of_lt_of_le o2 hW.size) (Nat.lt_of_lt_of_le o0 hW.size) (at_on hW o0 p0) (at_on hW o1 p1) (at_on hW o2 p2) hT hG hP)
  rw [show (if isOfB issuer name key f u sign = true then (0 : Int) else 2) = codeS name key f u sign issuer from rfl] at C2
  have HQ2 : Hid (w1.cell? ⟨b2, 0, none⟩ = some (.func (.func 160) #[] #[.pointer (some ⟨d1, 0, none⟩), .pointer (some ⟨d2, 0, none⟩)])) := hid (by rw [HW1.out]; exact at_on ((Below.refl _ _).alloc (Nat.le_refl _) _) h2 k2)
  have hl2 : b2 < w1.heap.size := by omega
  have q1 : (w.alloc (.cells #[.string name, .string key, .int .i64 f, .int .i64 u, .string sign] 33)).cell? ⟨b1, 0, none⟩ = some (.func (.func 160) #[] #[.pointer (some ⟨a1, 0, none⟩), .pointer (some ⟨a2, 0, none⟩)]) := at_on ((Below.refl _ _).alloc (Nat.le_refl _) _) h1 k1
  generalize hg1 : codeF name key f u sign = g1 at *
  generalize hg2 : codeS name key f u sign issuer = g2 at *
  clear hg1 hg2
  by_cases ha : g1 = 0
  · skip
    have HTH : Hid (thO g1 g2 = g2) := hid (by unfold thO; rw [if_pos ha])
    subst ha
    go_enter Tryd.func163, Tryd.ntmps163
    go_wp2_with (go_at_call 160; rw [← HW1.out]; refine (C1.out _ HB0_1.out (tab_on HTAB.out hG HB0_1.out) (Nat.lt_of_lt_of_le hG HB0_1.out.size) (Num.tab_stays HB0_1.out HPW.out)).mono ?_; rintro e w2 ⟨rfl, hb2⟩; refine Hid.out ?_)
    refine hid ?_
    have hz2 := hb2.size
    have HBX := hid hb2
    have HB0_2 := hid (HB0_1.out.trans (hb2.mono HB0_1.out.size))
    have HVC_2 := hid ((hb2.block _ (by omega)).trans HVC_1.out)
    clear HB0_1 HVC_1
    clear hb2
    have q2 : w2.cell? ⟨b2, 0, none⟩ = some (.func (.func 160) #[] #[.pointer (some ⟨d1, 0, none⟩), .pointer (some ⟨d2, 0, none⟩)]) := at_on HBX.out hl2 HQ2.out
    have k_C_0 := (cell_of_row _ _ 0 _ _ _ HVC_2.out).trans rfl
    have k_C_1 := (cell_of_row _ _ 1 _ _ _ HVC_2.out).trans rfl
    have k_C_2 := (cell_of_row _ _ 2 _ _ _ HVC_2.out).trans rfl
    have k_C_3 := (cell_of_row _ _ 3 _ _ _ HVC_2.out).trans rfl
    have k_C_4 := (cell_of_row _ _ 4 _ _ _ HVC_2.out).trans rfl
    go_wp2_with (go_at_call 160; refine (C2.out _ HB0_2.out (tab_on HTAB.out hG HB0_2.out) (Nat.lt_of_lt_of_le hG HB0_2.out.size) (Num.tab_stays HB0_2.out HPW.out)).mono ?_; rintro e w3 ⟨rfl, hb3⟩; refine Hid.out ?_)
    refine hid ?_
    clear k_C_0 k_C_1 k_C_2 k_C_3 k_C_4
    have hz3 := hb3.size
    have HB0_3 := hid (HB0_2.out.trans (hb3.mono HB0_2.out.size))
    have HVC_3 := hid ((hb3.block _ (by omega)).trans HVC_2.out)
    clear HB0_2 HVC_2
    clear hb3
    go_wp2
    go_ret
    exact ⟨by rw [HTH.out]; rfl, HB0_3.out⟩
  · skip
    have HTH : Hid (thO g1 g2 = g1) := hid (by unfold thO; rw [if_neg ha])
    have hab : (g1 != 0) = true := by simpa using ha
    go_enter Tryd.func163, Tryd.ntmps163
    go_wp2_with (go_at_call 160; rw [← HW1.out]; refine (C1.out _ HB0_1.out (tab_on HTAB.out hG HB0_1.out) (Nat.lt_of_lt_of_le hG HB0_1.out.size) (Num.tab_stays HB0_1.out HPW.out)).mono ?_; rintro e w2 ⟨rfl, hb2⟩; refine Hid.out ?_)
    refine hid ?_
    have hz2 := hb2.size
    have HBX := hid hb2
    have HB0_2 := hid (HB0_1.out.trans (hb2.mono HB0_1.out.size))
    have HVC_2 := hid ((hb2.block _ (by omega)).trans HVC_1.out)
    clear HB0_1 HVC_1
    clear hb2
    go_wp2
    go_ret
    exact ⟨by rw [HTH.out]; rfl, HB0_2.out⟩

set_option maxRecDepth 20000 in
set_option maxHeartbeats 2000000 in
theorem th_two (name key : ByteArray) (f u : Int) (sign : ByteArray) (issuer : ByteArray) (now : Int) (b1 b2 : Nat) (x y : Value) (w : World) (h1 : b1 < w.heap.size) (h2 : b2 < w.heap.size) (k1 : w.cell? ⟨b1, 0, none⟩ = some x) (k2 : w.cell? ⟨b2, 0, none⟩ = some y) (hx : (ThenAt FormAt (SignAt issuer)) w x) (hy : (EarlyAt now) w y) (hT : Tab w) (hG : 0 < w.heap.size) (hP : Lib.TabIs Tryd.prog w "internal/strconv.uint64pow10" .u64 Lib.pow10Tab) :
    Calls Tryd.prog 163 #[.agg #[.string name, .string key, .int .i64 f, .int .i64 u, .string sign], .pointer (some ⟨b1, 0, none⟩), .pointer (some ⟨b2, 0, none⟩)] w fun e w' => e = .returned (.int .i64 (thO (thO (codeF name key f u sign) (codeS name key f u sign issuer)) (codeE f now))) ∧ Below w.heap.size w w' := by
  have HTAB := hid hT
  have HPW := hid hP
  clear hT hP
  have HB0_0 : Hid (Below w.heap.size w w) := hid (Below.refl _ _)
  have hz0 : w.heap.size ≤ w.heap.size := Nat.le_refl _
  obtain ⟨w1, hw1⟩ : ∃ W, W = w.alloc (.cells #[.string name, .string key, .int .i64 f, .int .i64 u, .string sign] 33) := ⟨_, rfl⟩
  have hb1 : Below w.heap.size w w1 := by rw [hw1]; exact (Below.refl _ _).alloc (Nat.le_refl _) _
  have hz1 : w.heap.size < w1.heap.size := by rw [hw1]; simp
  have HVC_1 : Hid (w1.heap[w.heap.size]? = some (.cells #[.string name, .string key, .int .i64 f, .int .i64 u, .string sign] 33)) := hid (by rw [hw1]; exact heap_alloc_new _ _)
  have HW1 := hid hw1
  have HB0_1 := hid (HB0_0.out.trans (hb1.mono HB0_0.out.size))
  clear hw1 hb1
  obtain ⟨a1, a2, x1, y1, rfl, m1, m2, n1, n2, hx1, hy1⟩ := hx
  have C1 := hid (fun W (hW : Below w.heap.size w W) hT hG hP => th_one name key f u sign issuer a1 a2 x1 y1 W (Nat.lt_of_lt_of_le m1 hW.size) (Nat.lt_of_lt_of_le m2 hW.size) (at_on hW m1 n1) (at_on hW m2 n2) (hx1.on hW) (hy1.on hW) hT hG hP)
  obtain ⟨d1, d2, d0, rfl, o1, o2, o0, p1, p2, p0⟩ := hy
  have C2 := hid (fun W (hW : Below w.heap.size w W) (_ : Tab W) (_ : 0 < W.heap.size) (_ : Lib.TabIs Tryd.prog W "internal/strconv.uint64pow10" .u64 Lib.pow10Tab) => un_early name key f u sign now d0 d1 d2 W (Nat.lt_of_lt_of_le o1 hW.size) (Nat.lt_of_lt_of_le o2 hW.size) (Nat.lt_of_lt_of_le o0 hW.size) (at_on hW o0 p0) (at_on hW o1 p1) (at_on hW o2 p2))
  rw [show (if decide (f ≤ now) = true then (0 : Int) else 3) = codeE f now from rfl] at C2
  have HQ2 : Hid (w1.cell? ⟨b2, 0, none⟩ = some (.func (.func 160) #[] #[.pointer (some ⟨d1, 0, none⟩), .pointer (some ⟨d2, 0, none⟩)])) := hid (by rw [HW1.out]; exact at_on ((Below.refl _ _).alloc (Nat.le_refl _) _) h2 k2)
  have hl2 : b2 < w1.heap.size := by omega
  have q1 : (w.alloc (.cells #[.string name, .string key, .int .i64 f, .int .i64 u, .string sign] 33)).cell? ⟨b1, 0, none⟩ = some (.func (.func 163) #[] #[.pointer (some ⟨a1, 0, none⟩), .pointer (some ⟨a2, 0, none⟩)]) := at_on ((Below.refl _ _).alloc (Nat.le_refl _) _) h1 k1
  generalize hg1 : thO (codeF name key f u sign) (codeS name key f u sign issuer) = g1 at *
  generalize hg2 : codeE f now = g2 at *
  clear hg1 hg2
  by_cases ha : g1 = 0
  · skip
    have HTH : Hid (thO g1 g2 = g2) := hid (by unfold thO; rw [if_pos ha])
    subst ha
    go_enter Tryd.func163, Tryd.ntmps163
    go_wp2_with (go_at_call 163; rw [← HW1.out]; refine (C1.out _ HB0_1.out (tab_on HTAB.out hG HB0_1.out) (Nat.lt_of_lt_of_le hG HB0_1.out.size) (Num.tab_stays HB0_1.out HPW.out)).mono ?_; rintro e w2 ⟨rfl, hb2⟩; refine Hid.out ?_)
    refine hid ?_
    have hz2 := hb2.size
    have HBX := hid hb2
    have HB0_2 := hid (HB0_1.out.trans (hb2.mono HB0_1.out.size))
    have HVC_2 := hid ((hb2.block _ (by omega)).trans HVC_1.out)
    clear HB0_1 HVC_1
    clear hb2
    have q2 : w2.cell? ⟨b2, 0, none⟩ = some (.func (.func 160) #[] #[.pointer (some ⟨d1, 0, none⟩), .pointer (some ⟨d2, 0, none⟩)]) := at_on HBX.out hl2 HQ2.out
    have k_C_0 := (cell_of_row _ _ 0 _ _ _ HVC_2.out).trans rfl
    have k_C_1 := (cell_of_row _ _ 1 _ _ _ HVC_2.out).trans rfl
    have k_C_2 := (cell_of_row _ _ 2 _ _ _ HVC_2.out).trans rfl
    have k_C_3 := (cell_of_row _ _ 3 _ _ _ HVC_2.out).trans rfl
    have k_C_4 := (cell_of_row _ _ 4 _ _ _ HVC_2.out).trans rfl
    go_wp2_with (go_at_call 160; refine (C2.out _ HB0_2.out (tab_on HTAB.out hG HB0_2.out) (Nat.lt_of_lt_of_le hG HB0_2.out.size) (Num.tab_stays HB0_2.out HPW.out)).mono ?_; rintro e w3 ⟨rfl, hb3⟩; refine Hid.out ?_)
    refine hid ?_
    clear k_C_0 k_C_1 k_C_2 k_C_3 k_C_4
    have hz3 := hb3.size
    have HB0_3 := hid (HB0_2.out.trans (hb3.mono HB0_2.out.size))
    have HVC_3 := hid ((hb3.block _ (by omega)).trans HVC_2.out)
    clear HB0_2 HVC_2
    clear hb3
    go_wp2
    go_ret
    exact ⟨by rw [HTH.out]; rfl, HB0_3.out⟩
  · skip
    have HTH : Hid (thO g1 g2 = g1) := hid (by unfold thO; rw [if_neg ha])
    have hab : (g1 != 0) = true := by simpa using ha
    go_enter Tryd.func163, Tryd.ntmps163
    go_wp2_with (go_at_call 163; rw [← HW1.out]; refine (C1.out _ HB0_1.out (tab_on HTAB.out hG HB0_1.out) (Nat.lt_of_lt_of_le hG HB0_1.out.size) (Num.tab_stays HB0_1.out HPW.out)).mono ?_; rintro e w2 ⟨rfl, hb2⟩; refine Hid.out ?_)
    refine hid ?_
    have hz2 := hb2.size
    have HBX := hid hb2
    have HB0_2 := hid (HB0_1.out.trans (hb2.mono HB0_1.out.size))
    have HVC_2 := hid ((hb2.block _ (by omega)).trans HVC_1.out)
    clear HB0_1 HVC_1
    clear hb2
    go_wp2
    go_ret
    exact ⟨by rw [HTH.out]; rfl, HB0_2.out⟩

set_option maxRecDepth 20000 in
set_option maxHeartbeats 2000000 in
theorem th_three (name key : ByteArray) (f u : Int) (sign : ByteArray) (issuer : ByteArray) (now : Int) (b1 b2 : Nat) (x y : Value) (w : World) (h1 : b1 < w.heap.size) (h2 : b2 < w.heap.size) (k1 : w.cell? ⟨b1, 0, none⟩ = some x) (k2 : w.cell? ⟨b2, 0, none⟩ = some y) (hx : (ThenAt (ThenAt FormAt (SignAt issuer)) (EarlyAt now)) w x) (hy : (LateAt now) w y) (hT : Tab w) (hG : 0 < w.heap.size) (hP : Lib.TabIs Tryd.prog w "internal/strconv.uint64pow10" .u64 Lib.pow10Tab) :
    Calls Tryd.prog 163 #[.agg #[.string name, .string key, .int .i64 f, .int .i64 u, .string sign], .pointer (some ⟨b1, 0, none⟩), .pointer (some ⟨b2, 0, none⟩)] w fun e w' => e = .returned (.int .i64 (thO (thO (thO (codeF name key f u sign) (codeS name key f u sign issuer)) (codeE f now)) (codeL u now))) ∧ Below w.heap.size w w' := by
  have HTAB := hid hT
  have HPW := hid hP
  clear hT hP
  have HB0_0 : Hid (Below w.heap.size w w) := hid (Below.refl _ _)
  have hz0 : w.heap.size ≤ w.heap.size := Nat.le_refl _
  obtain ⟨w1, hw1⟩ : ∃ W, W = w.alloc (.cells #[.string name, .string key, .int .i64 f, .int .i64 u, .string sign] 33) := ⟨_, rfl⟩
  have hb1 : Below w.heap.size w w1 := by rw [hw1]; exact (Below.refl _ _).alloc (Nat.le_refl _) _
  have hz1 : w.heap.size < w1.heap.size := by rw [hw1]; simp
  have HVC_1 : Hid (w1.heap[w.heap.size]? = some (.cells #[.string name, .string key, .int .i64 f, .int .i64 u, .string sign] 33)) := hid (by rw [hw1]; exact heap_alloc_new _ _)
  have HW1 := hid hw1
  have HB0_1 := hid (HB0_0.out.trans (hb1.mono HB0_0.out.size))
  clear hw1 hb1
  obtain ⟨a1, a2, x1, y1, rfl, m1, m2, n1, n2, hx1, hy1⟩ := hx
  have C1 := hid (fun W (hW : Below w.heap.size w W) hT hG hP => th_two name key f u sign issuer now a1 a2 x1 y1 W (Nat.lt_of_lt_of_le m1 hW.size) (Nat.lt_of_lt_of_le m2 hW.size) (at_on hW m1 n1) (at_on hW m2 n2) (ThenAt.on (X := FormAt) (Y := SignAt issuer) FormAt.on SignAt.on hx1 hW) (hy1.on hW) hT hG hP)
  obtain ⟨d1, d2, d0, rfl, o1, o2, o0, p1, p2, p0⟩ := hy
  have C2 := hid (fun W (hW : Below w.heap.size w W) (_ : Tab W) (_ : 0 < W.heap.size) (_ : Lib.TabIs Tryd.prog W "internal/strconv.uint64pow10" .u64 Lib.pow10Tab) => un_late name key f u sign now d0 d1 d2 W (Nat.lt_of_lt_of_le o1 hW.size) (Nat.lt_of_lt_of_le o2 hW.size) (Nat.lt_of_lt_of_le o0 hW.size) (at_on hW o0 p0) (at_on hW o1 p1) (at_on hW o2 p2))
  rw [show (if decide (now ≤ u) = true then (0 : Int) else 4) = codeL u now from rfl] at C2
  have HQ2 : Hid (w1.cell? ⟨b2, 0, none⟩ = some (.func (.func 160) #[] #[.pointer (some ⟨d1, 0, none⟩), .pointer (some ⟨d2, 0, none⟩)])) := hid (by rw [HW1.out]; exact at_on ((Below.refl _ _).alloc (Nat.le_refl _) _) h2 k2)
  have hl2 : b2 < w1.heap.size := by omega
  have q1 : (w.alloc (.cells #[.string name, .string key, .int .i64 f, .int .i64 u, .string sign] 33)).cell? ⟨b1, 0, none⟩ = some (.func (.func 163) #[] #[.pointer (some ⟨a1, 0, none⟩), .pointer (some ⟨a2, 0, none⟩)]) := at_on ((Below.refl _ _).alloc (Nat.le_refl _) _) h1 k1
  generalize hg1 : thO (thO (codeF name key f u sign) (codeS name key f u sign issuer)) (codeE f now) = g1 at *
  generalize hg2 : codeL u now = g2 at *
  clear hg1 hg2
  by_cases ha : g1 = 0
  · skip
    have HTH : Hid (thO g1 g2 = g2) := hid (by unfold thO; rw [if_pos ha])
    subst ha
    go_enter Tryd.func163, Tryd.ntmps163
    go_wp2_with (go_at_call 163; rw [← HW1.out]; refine (C1.out _ HB0_1.out (tab_on HTAB.out hG HB0_1.out) (Nat.lt_of_lt_of_le hG HB0_1.out.size) (Num.tab_stays HB0_1.out HPW.out)).mono ?_; rintro e w2 ⟨rfl, hb2⟩; refine Hid.out ?_)
    refine hid ?_
    have hz2 := hb2.size
    have HBX := hid hb2
    have HB0_2 := hid (HB0_1.out.trans (hb2.mono HB0_1.out.size))
    have HVC_2 := hid ((hb2.block _ (by omega)).trans HVC_1.out)
    clear HB0_1 HVC_1
    clear hb2
    have q2 : w2.cell? ⟨b2, 0, none⟩ = some (.func (.func 160) #[] #[.pointer (some ⟨d1, 0, none⟩), .pointer (some ⟨d2, 0, none⟩)]) := at_on HBX.out hl2 HQ2.out
    have k_C_0 := (cell_of_row _ _ 0 _ _ _ HVC_2.out).trans rfl
    have k_C_1 := (cell_of_row _ _ 1 _ _ _ HVC_2.out).trans rfl
    have k_C_2 := (cell_of_row _ _ 2 _ _ _ HVC_2.out).trans rfl
    have k_C_3 := (cell_of_row _ _ 3 _ _ _ HVC_2.out).trans rfl
    have k_C_4 := (cell_of_row _ _ 4 _ _ _ HVC_2.out).trans rfl
    go_wp2_with (go_at_call 160; refine (C2.out _ HB0_2.out (tab_on HTAB.out hG HB0_2.out) (Nat.lt_of_lt_of_le hG HB0_2.out.size) (Num.tab_stays HB0_2.out HPW.out)).mono ?_; rintro e w3 ⟨rfl, hb3⟩; refine Hid.out ?_)
    refine hid ?_
    clear k_C_0 k_C_1 k_C_2 k_C_3 k_C_4
    have hz3 := hb3.size
    have HB0_3 := hid (HB0_2.out.trans (hb3.mono HB0_2.out.size))
    have HVC_3 := hid ((hb3.block _ (by omega)).trans HVC_2.out)
    clear HB0_2 HVC_2
    clear hb3
    go_wp2
    go_ret
    exact ⟨by rw [HTH.out]; rfl, HB0_3.out⟩
  · skip
    have HTH : Hid (thO g1 g2 = g1) := hid (by unfold thO; rw [if_neg ha])
    have hab : (g1 != 0) = true := by simpa using ha
    go_enter Tryd.func163, Tryd.ntmps163
    go_wp2_with (go_at_call 163; rw [← HW1.out]; refine (C1.out _ HB0_1.out (tab_on HTAB.out hG HB0_1.out) (Nat.lt_of_lt_of_le hG HB0_1.out.size) (Num.tab_stays HB0_1.out HPW.out)).mono ?_; rintro e w2 ⟨rfl, hb2⟩; refine Hid.out ?_)
    refine hid ?_
    have hz2 := hb2.size
    have HBX := hid hb2
    have HB0_2 := hid (HB0_1.out.trans (hb2.mono HB0_1.out.size))
    have HVC_2 := hid ((hb2.block _ (by omega)).trans HVC_1.out)
    clear HB0_1 HVC_1
    clear hb2
    go_wp2
    go_ret
    exact ⟨by rw [HTH.out]; rfl, HB0_2.out⟩
end Go.Proofs.YtponjghppnpnhaaDoor
