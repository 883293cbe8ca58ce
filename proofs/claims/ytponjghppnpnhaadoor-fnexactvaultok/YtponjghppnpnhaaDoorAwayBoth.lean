/- Does a seal only take away, asked by both sides; is it a change. -/
import Derived.Test.YtponjghppnpnhaaDoorSealBoth
namespace Go.Proofs.YtponjghppnpnhaaDoor
open Go.RowKit
open Go.Lib (hid)

set_option maxRecDepth 20000 in
set_option maxHeartbeats 4000000 in
theorem away_spec (x0 x1 : Int) (x2 x3 : ByteArray) (w : World) :
    Calls Tryd.prog 78 #[.agg #[.int .i64 x0, .int .i64 x1, .string x2, .string x3]] w fun e w' => e = .returned (.bool (awayB ⟨x0, x1, x2, x3⟩)) ∧ Below w.heap.size w w' := by
  have HR : Hid (awayB ⟨x0, x1, x2, x3⟩ = (decide (0 ≤ x0 ∧ x0 ≤ 7) && (decide (x0 = x0) && bareB ⟨x0, x1, x2, x3⟩))) := hid (by rw [decide_eq_true (rfl : x0 = x0), Bool.true_and]; rfl)
  have HE := fun W => seal_eql x0 x0 x1 x2 x3 W
  have C1 := hid (fun W => in_any x0 0 7 W)
  generalize awayB ⟨x0, x1, x2, x3⟩ = r at *
  generalize (decide (x0 = x0) && bareB ⟨x0, x1, x2, x3⟩) = rb at *
  have HB0_0 : Hid (Below w.heap.size w w) := hid (Below.refl _ _)
  have hz0 : w.heap.size ≤ w.heap.size := Nat.le_refl _
  obtain ⟨w1, hw1⟩ : ∃ W, W = w.alloc (.cells #[.int .i64 x0, .int .i64 x1, .string x2, .string x3] 68) := ⟨_, rfl⟩
  have hb1 : Below w.heap.size w w1 := by rw [hw1]; exact (Below.refl _ _).alloc (Nat.le_refl _) _
  have hz1 : w.heap.size < w1.heap.size := by rw [hw1]; simp
  have HVS_1 : Hid (w1.heap[w.heap.size]? = some (.cells #[.int .i64 x0, .int .i64 x1, .string x2, .string x3] 68)) := hid (by rw [hw1]; exact heap_alloc_new _ _)
  have HW1 := hid hw1
  have HB0_1 := hid (HB0_0.out.trans (hb1.mono HB0_0.out.size))
  clear hw1 hb1
  cases h1 : decide (0 ≤ x0 ∧ x0 ≤ 7) with
  | false =>
    rw [h1] at C1 HR
    clear h1
    go_enter Tryd.func78, Tryd.ntmps78
    go_wp2_with (go_at_call_of 109 (Value.int .i64 x0); rw [← HW1.out]; refine (C1.out _).mono ?_; rintro e wq ⟨rfl, eq⟩; rw [eq]; clear eq wq; refine Hid.out ?_)
    refine hid ?_
    go_wp2
    go_ret
    exact ⟨by rw [HR.out]; (first | rfl | simp | (simp; omega) | (congr 2; simp; omega)), HB0_1.out⟩
  | true =>
    rw [h1] at C1 HR
    clear h1
    go_enter Tryd.func78, Tryd.ntmps78
    go_wp2_with (go_at_call_of 109 (Value.int .i64 x0); rw [← HW1.out]; refine (C1.out _).mono ?_; rintro e wq ⟨rfl, eq⟩; rw [eq]; clear eq wq; refine Hid.out ?_)
    refine hid ?_
    have k_S_0 := (cell_of_row _ _ 0 _ _ _ HVS_1.out).trans rfl
    have k_S_1 := (cell_of_row _ _ 1 _ _ _ HVS_1.out).trans rfl
    have k_S_2 := (cell_of_row _ _ 2 _ _ _ HVS_1.out).trans rfl
    have k_S_3 := (cell_of_row _ _ 3 _ _ _ HVS_1.out).trans rfl
    go_wp2
    go_ret
    exact ⟨by rw [HR.out]; (first | rfl | simp | (simp; omega) | (congr 2; simp; omega)), HB0_1.out⟩

set_option maxRecDepth 20000 in
set_option maxHeartbeats 4000000 in
theorem takes_impl (x0 x1 : Int) (x2 x3 : ByteArray) (w : World) :
    Calls Tryd.prog 137 #[.agg #[.int .i64 x0, .int .i64 x1, .string x2, .string x3]] w fun e w' => e = .returned (.bool (awayB ⟨x0, x1, x2, x3⟩)) ∧ Below w.heap.size w w' := by
  have HR : Hid (awayB ⟨x0, x1, x2, x3⟩ = (decide (0 ≤ x0 ∧ x0 ≤ 7) && (decide (x0 = x0) && bareB ⟨x0, x1, x2, x3⟩))) := hid (by rw [decide_eq_true (rfl : x0 = x0), Bool.true_and]; rfl)
  have HE := fun W => seal_eql x0 x0 x1 x2 x3 W
  have C1 := hid (fun W => isSlot_calls x0 W)
  generalize awayB ⟨x0, x1, x2, x3⟩ = r at *
  generalize (decide (x0 = x0) && bareB ⟨x0, x1, x2, x3⟩) = rb at *
  have HB0_0 : Hid (Below w.heap.size w w) := hid (Below.refl _ _)
  have hz0 : w.heap.size ≤ w.heap.size := Nat.le_refl _
  obtain ⟨w1, hw1⟩ : ∃ W, W = w.alloc (.cells #[.int .i64 x0, .int .i64 x1, .string x2, .string x3] 68) := ⟨_, rfl⟩
  have hb1 : Below w.heap.size w w1 := by rw [hw1]; exact (Below.refl _ _).alloc (Nat.le_refl _) _
  have hz1 : w.heap.size < w1.heap.size := by rw [hw1]; simp
  have HVS_1 : Hid (w1.heap[w.heap.size]? = some (.cells #[.int .i64 x0, .int .i64 x1, .string x2, .string x3] 68)) := hid (by rw [hw1]; exact heap_alloc_new _ _)
  have HW1 := hid hw1
  have HB0_1 := hid (HB0_0.out.trans (hb1.mono HB0_0.out.size))
  clear hw1 hb1
  cases h1 : decide (0 ≤ x0 ∧ x0 ≤ 7) with
  | false =>
    rw [h1] at C1 HR
    clear h1
    go_enter Tryd.func137, Tryd.ntmps137
    go_wp2_with (go_at_call 169; rw [← HW1.out]; refine (C1.out _).mono ?_; rintro e wq ⟨rfl, eq⟩; rw [eq]; clear eq wq; refine Hid.out ?_)
    refine hid ?_
    go_wp2
    go_ret
    exact ⟨by rw [HR.out]; (first | rfl | simp | (simp; omega) | (congr 2; simp; omega)), HB0_1.out⟩
  | true =>
    rw [h1] at C1 HR
    clear h1
    go_enter Tryd.func137, Tryd.ntmps137
    go_wp2_with (go_at_call 169; rw [← HW1.out]; refine (C1.out _).mono ?_; rintro e wq ⟨rfl, eq⟩; rw [eq]; clear eq wq; refine Hid.out ?_)
    refine hid ?_
    have k_S_0 := (cell_of_row _ _ 0 _ _ _ HVS_1.out).trans rfl
    have k_S_1 := (cell_of_row _ _ 1 _ _ _ HVS_1.out).trans rfl
    have k_S_2 := (cell_of_row _ _ 2 _ _ _ HVS_1.out).trans rfl
    have k_S_3 := (cell_of_row _ _ 3 _ _ _ HVS_1.out).trans rfl
    go_wp2
    go_ret
    exact ⟨by rw [HR.out]; (first | rfl | simp | (simp; omega) | (congr 2; simp; omega)), HB0_1.out⟩

set_option maxRecDepth 20000 in
set_option maxHeartbeats 4000000 in
theorem change_impl (x0 x1 : Int) (x2 x3 : ByteArray) (w : World) (hT : Tab w) (hG : 0 < w.heap.size) :
    Calls Tryd.prog 81 #[.agg #[.int .i64 x0, .int .i64 x1, .string x2, .string x3]] w fun e w' => e = .returned (.bool (sealB ⟨x0, x1, x2, x3⟩ || awayB ⟨x0, x1, x2, x3⟩)) ∧ Below w.heap.size w w' := by
  have CA := hid (fun W => takes_impl x0 x1 x2 x3 W)
  have CB := hid (fun W hT hG => right_impl x0 x1 x2 x3 W hT hG)
  have HTAB := hid hT
  clear hT
  generalize awayB ⟨x0, x1, x2, x3⟩ = ra at *
  generalize sealB ⟨x0, x1, x2, x3⟩ = rs at *
  have HB0_0 : Hid (Below w.heap.size w w) := hid (Below.refl _ _)
  have hz0 : w.heap.size ≤ w.heap.size := Nat.le_refl _
  obtain ⟨w1, hw1⟩ : ∃ W, W = w.alloc (.cells #[.int .i64 x0, .int .i64 x1, .string x2, .string x3] 68) := ⟨_, rfl⟩
  have hb1 : Below w.heap.size w w1 := by rw [hw1]; exact (Below.refl _ _).alloc (Nat.le_refl _) _
  have hz1 : w.heap.size < w1.heap.size := by rw [hw1]; simp
  have HVS_1 : Hid (w1.heap[w.heap.size]? = some (.cells #[.int .i64 x0, .int .i64 x1, .string x2, .string x3] 68)) := hid (by rw [hw1]; exact heap_alloc_new _ _)
  have HW1 := hid hw1
  have HB0_1 := hid (HB0_0.out.trans (hb1.mono HB0_0.out.size))
  clear hw1 hb1
  cases ra with
  | true =>
    go_enter Tryd.func81, Tryd.ntmps81
    go_wp2_with (go_at_call 137; rw [← HW1.out]; refine (CA.out _).mono ?_; rintro e w2 ⟨rfl, hb2⟩; refine Hid.out ?_)
    refine hid ?_
    have hz2 := hb2.size
    have HB0_2 := hid (HB0_1.out.trans (hb2.mono HB0_1.out.size))
    have HVS_2 := hid ((hb2.block _ (by omega)).trans HVS_1.out)
    clear HB0_1 HVS_1
    clear hb2
    go_wp2
    go_ret
    exact ⟨by rw [Bool.or_true] <;> rfl, HB0_2.out⟩
  | false =>
    go_enter Tryd.func81, Tryd.ntmps81
    go_wp2_with (go_at_call 137; rw [← HW1.out]; refine (CA.out _).mono ?_; rintro e w2 ⟨rfl, hb2⟩; refine Hid.out ?_)
    refine hid ?_
    have hz2 := hb2.size
    have HB0_2 := hid (HB0_1.out.trans (hb2.mono HB0_1.out.size))
    have HVS_2 := hid ((hb2.block _ (by omega)).trans HVS_1.out)
    clear HB0_1 HVS_1
    clear hb2
    have k_S_0 := (cell_of_row _ _ 0 _ _ _ HVS_2.out).trans rfl
    have k_S_1 := (cell_of_row _ _ 1 _ _ _ HVS_2.out).trans rfl
    have k_S_2 := (cell_of_row _ _ 2 _ _ _ HVS_2.out).trans rfl
    have k_S_3 := (cell_of_row _ _ 3 _ _ _ HVS_2.out).trans rfl
    go_wp2_with (go_at_call 136; refine (CB.out _ (tab_on HTAB.out hG HB0_2.out) (Nat.lt_of_lt_of_le hG HB0_2.out.size)).mono ?_; rintro e w3 ⟨rfl, hb3⟩; refine Hid.out ?_)
    refine hid ?_
    clear k_S_0 k_S_1 k_S_2 k_S_3
    have hz3 := hb3.size
    have HB0_3 := hid (HB0_2.out.trans (hb3.mono HB0_2.out.size))
    have HVS_3 := hid ((hb3.block _ (by omega)).trans HVS_2.out)
    clear HB0_2 HVS_2
    clear hb3
    go_wp2
    go_ret
    exact ⟨by rw [Bool.or_false] <;> rfl, HB0_3.out⟩
end Go.Proofs.YtponjghppnpnhaaDoor
