/- A seal, asked by both sides: is it right, does it take away. -/
import Derived.Test.YtponjghppnpnhaaDoorVltPlain
import Derived.Test.YtponjghppnpnhaaDoorMeasBoth
import Derived.Test.YtponjghppnpnhaaDoorMaskOf
import Derived.Test.YtponjghppnpnhaaDoorStVault
namespace Go.Proofs.YtponjghppnpnhaaDoor
open Go.RowKit
open Go.Lib (hid)

theorem isSlot_calls (x : Int) (w : World) : Calls Tryd.prog 169 #[.int .i64 x] w fun e w' => e = .returned (.bool (decide (0 ≤ x ∧ x ≤ 7))) ∧ w' = w := by
  by_cases h0 : 0 ≤ x
  · by_cases h1 : x ≤ 7
    · go_enter Tryd.func169, Tryd.ntmps169
      go_wp2
      go_ret
      exact ⟨by simp [h0, h1]; omega, rfl⟩
    · go_enter Tryd.func169, Tryd.ntmps169
      go_wp2
      go_ret
      exact ⟨by simp; omega, rfl⟩
  · go_enter Tryd.func169, Tryd.ntmps169
    go_wp2
    go_ret
    exact ⟨by simp; omega, rfl⟩

set_option maxRecDepth 20000 in
set_option maxHeartbeats 4000000 in
theorem seal_spec (x0 x1 : Int) (x2 x3 : ByteArray) (h2 : x2.size ≤ 1048576) (h3 : x3.size ≤ 1048576) (w : World) :
    Calls Tryd.prog 77 #[.agg #[.int .i64 x0, .int .i64 x1, .string x2, .string x3]] w fun e w' => e = .returned (.bool (sealB ⟨x0, x1, x2, x3⟩)) ∧ Below w.heap.size w w' := by
  have HR : Hid (sealB ⟨x0, x1, x2, x3⟩ = (decide (0 ≤ x0 ∧ x0 ≤ 7) && (decide (1 ≤ x1 ∧ x1 ≤ 255) && (decide ((nodeOf x2).1 ≠ 0) && decide ((nodeOf x3).1 ≠ 0))))) := hid rfl
  have C1 := hid (fun W => in_any x0 0 7 W)
  have C2 := hid (fun W => in_any x1 1 255 W)
  have CA := hid (fun W => kind_spec x2 W h2)
  have CB := hid (fun W => kind_spec x3 W h3)
  clear h2 h3
  generalize sealB ⟨x0, x1, x2, x3⟩ = r at *
  generalize (nodeOf x2).1 = k2 at *
  generalize (nodeOf x3).1 = k3 at *
  have HB0_0 : Hid (Below w.heap.size w w) := hid (Below.refl _ _)
  have hz0 : w.heap.size ≤ w.heap.size := Nat.le_refl _
  obtain ⟨w1, hw1⟩ : ∃ W, W = w.alloc (.cells #[.int .i64 x0, .int .i64 x1, .string x2, .string x3] 68) := ⟨_, rfl⟩
  have hb1 : Below w.heap.size w w1 := by rw [hw1]; exact (Below.refl _ _).alloc (Nat.le_refl _) _
  have hz1 : w.heap.size < w1.heap.size := by rw [hw1]; simp
  have HVS_1 : Hid (w1.heap[w.heap.size]? = some (.cells #[.int .i64 x0, .int .i64 x1, .string x2, .string x3] 68)) := hid (by rw [hw1]; exact heap_alloc_new _ _)
  have HW1 := hid hw1
  have HB0_1 := hid (HB0_0.out.trans (hb1.mono HB0_0.out.size))
  clear hw1 hb1
  cases h1 : decide (0 ≤ x0 ∧ x0 ≤ 7) with
  | false =>
    rw [h1] at C1 HR
    clear h1
    go_enter Tryd.func77, Tryd.ntmps77
    go_wp2_with (go_at_call_of 109 (Value.int .i64 x0); rw [← HW1.out]; refine (C1.out _).mono ?_; rintro e wq ⟨rfl, eq⟩; rw [eq]; clear eq wq; refine Hid.out ?_)
    refine hid ?_
    go_wp2
    go_ret
    exact ⟨by rw [HR.out]; (first | rfl | simp | (simp; omega) | (congr 2; simp; omega)), HB0_1.out⟩
  | true =>
    rw [h1] at C1 HR
    clear h1
    cases h2 : decide (1 ≤ x1 ∧ x1 ≤ 255) with
    | false =>
      rw [h2] at C2 HR
      clear h2
      go_enter Tryd.func77, Tryd.ntmps77
      go_wp2_with (go_at_call_of 109 (Value.int .i64 x0); rw [← HW1.out]; refine (C1.out _).mono ?_; rintro e wq ⟨rfl, eq⟩; rw [eq]; clear eq wq; refine Hid.out ?_)
      refine hid ?_
      have k_S_0 := (cell_of_row _ _ 0 _ _ _ HVS_1.out).trans rfl
      have k_S_1 := (cell_of_row _ _ 1 _ _ _ HVS_1.out).trans rfl
      have k_S_2 := (cell_of_row _ _ 2 _ _ _ HVS_1.out).trans rfl
      have k_S_3 := (cell_of_row _ _ 3 _ _ _ HVS_1.out).trans rfl
      go_wp2_with (go_at_call_of 109 (Value.int .i64 x1); refine (C2.out _).mono ?_; rintro e wq ⟨rfl, eq⟩; rw [eq]; clear eq wq; refine Hid.out ?_)
      refine hid ?_
      go_wp2
      go_ret
      exact ⟨by rw [HR.out]; (first | rfl | simp | (simp; omega) | (congr 2; simp; omega)), HB0_1.out⟩
    | true =>
      rw [h2] at C2 HR
      clear h2
      by_cases hk2 : k2 = 0
      · subst hk2
        go_enter Tryd.func77, Tryd.ntmps77
        go_wp2_with (go_at_call_of 109 (Value.int .i64 x0); rw [← HW1.out]; refine (C1.out _).mono ?_; rintro e wq ⟨rfl, eq⟩; rw [eq]; clear eq wq; refine Hid.out ?_)
        refine hid ?_
        have k_S_0 := (cell_of_row _ _ 0 _ _ _ HVS_1.out).trans rfl
        have k_S_1 := (cell_of_row _ _ 1 _ _ _ HVS_1.out).trans rfl
        have k_S_2 := (cell_of_row _ _ 2 _ _ _ HVS_1.out).trans rfl
        have k_S_3 := (cell_of_row _ _ 3 _ _ _ HVS_1.out).trans rfl
        go_wp2_with (go_at_call_of 109 (Value.int .i64 x1); refine (C2.out _).mono ?_; rintro e wq ⟨rfl, eq⟩; rw [eq]; clear eq wq; refine Hid.out ?_)
        refine hid ?_
        go_wp2_with (go_at_call 64; refine (CA.out _).mono ?_; rintro e w2 ⟨rfl, hb2⟩; refine Hid.out ?_)
        refine hid ?_
        clear k_S_0 k_S_1 k_S_2 k_S_3
        have hz2 := hb2.size
        have HB0_2 := hid (HB0_1.out.trans (hb2.mono HB0_1.out.size))
        have HVS_2 := hid ((hb2.block _ (by omega)).trans HVS_1.out)
        clear HB0_1 HVS_1
        clear hb2
        go_wp2
        go_ret
        exact ⟨by rw [HR.out]; (first | rfl | simp | (simp; omega) | (congr 2; simp; omega)), HB0_2.out⟩
      · obtain ⟨m2, rfl⟩ := Nat.exists_eq_succ_of_ne_zero hk2
        have g2 : ((m2 + 1 : Nat) : Int) > 0 := by omega
        have g2b : (((m2 + 1 : Nat) : Int) != 0) = true := by simp; omega
        by_cases hk3 : k3 = 0
        · subst hk3
          go_enter Tryd.func77, Tryd.ntmps77
          go_wp2_with (go_at_call_of 109 (Value.int .i64 x0); rw [← HW1.out]; refine (C1.out _).mono ?_; rintro e wq ⟨rfl, eq⟩; rw [eq]; clear eq wq; refine Hid.out ?_)
          refine hid ?_
          have k_S_0 := (cell_of_row _ _ 0 _ _ _ HVS_1.out).trans rfl
          have k_S_1 := (cell_of_row _ _ 1 _ _ _ HVS_1.out).trans rfl
          have k_S_2 := (cell_of_row _ _ 2 _ _ _ HVS_1.out).trans rfl
          have k_S_3 := (cell_of_row _ _ 3 _ _ _ HVS_1.out).trans rfl
          go_wp2_with (go_at_call_of 109 (Value.int .i64 x1); refine (C2.out _).mono ?_; rintro e wq ⟨rfl, eq⟩; rw [eq]; clear eq wq; refine Hid.out ?_)
          refine hid ?_
          go_wp2_with (go_at_call 64; refine (CA.out _).mono ?_; rintro e w2 ⟨rfl, hb2⟩; refine Hid.out ?_)
          refine hid ?_
          clear k_S_0 k_S_1 k_S_2 k_S_3
          have hz2 := hb2.size
          have HB0_2 := hid (HB0_1.out.trans (hb2.mono HB0_1.out.size))
          have HVS_2 := hid ((hb2.block _ (by omega)).trans HVS_1.out)
          clear HB0_1 HVS_1
          clear hb2
          have k_S_0 := (cell_of_row _ _ 0 _ _ _ HVS_2.out).trans rfl
          have k_S_1 := (cell_of_row _ _ 1 _ _ _ HVS_2.out).trans rfl
          have k_S_2 := (cell_of_row _ _ 2 _ _ _ HVS_2.out).trans rfl
          have k_S_3 := (cell_of_row _ _ 3 _ _ _ HVS_2.out).trans rfl
          go_wp2_with (go_at_call 64; refine (CB.out _).mono ?_; rintro e w3 ⟨rfl, hb3⟩; refine Hid.out ?_)
          refine hid ?_
          clear k_S_0 k_S_1 k_S_2 k_S_3
          have hz3 := hb3.size
          have HB0_3 := hid (HB0_2.out.trans (hb3.mono HB0_2.out.size))
          have HVS_3 := hid ((hb3.block _ (by omega)).trans HVS_2.out)
          clear HB0_2 HVS_2
          clear hb3
          go_wp2
          go_ret
          exact ⟨by rw [HR.out]; (first | rfl | simp | (simp; omega) | (congr 2; simp; omega)), HB0_3.out⟩
        · obtain ⟨m3, rfl⟩ := Nat.exists_eq_succ_of_ne_zero hk3
          have g3 : ((m3 + 1 : Nat) : Int) > 0 := by omega
          have g3b : (((m3 + 1 : Nat) : Int) != 0) = true := by simp; omega
          go_enter Tryd.func77, Tryd.ntmps77
          go_wp2_with (go_at_call_of 109 (Value.int .i64 x0); rw [← HW1.out]; refine (C1.out _).mono ?_; rintro e wq ⟨rfl, eq⟩; rw [eq]; clear eq wq; refine Hid.out ?_)
          refine hid ?_
          have k_S_0 := (cell_of_row _ _ 0 _ _ _ HVS_1.out).trans rfl
          have k_S_1 := (cell_of_row _ _ 1 _ _ _ HVS_1.out).trans rfl
          have k_S_2 := (cell_of_row _ _ 2 _ _ _ HVS_1.out).trans rfl
          have k_S_3 := (cell_of_row _ _ 3 _ _ _ HVS_1.out).trans rfl
          go_wp2_with (go_at_call_of 109 (Value.int .i64 x1); refine (C2.out _).mono ?_; rintro e wq ⟨rfl, eq⟩; rw [eq]; clear eq wq; refine Hid.out ?_)
          refine hid ?_
          go_wp2_with (go_at_call 64; refine (CA.out _).mono ?_; rintro e w2 ⟨rfl, hb2⟩; refine Hid.out ?_)
          refine hid ?_
          clear k_S_0 k_S_1 k_S_2 k_S_3
          have hz2 := hb2.size
          have HB0_2 := hid (HB0_1.out.trans (hb2.mono HB0_1.out.size))
          have HVS_2 := hid ((hb2.block _ (by omega)).trans HVS_1.out)
          clear HB0_1 HVS_1
          clear hb2
          have k_S_0 := (cell_of_row _ _ 0 _ _ _ HVS_2.out).trans rfl
          have k_S_1 := (cell_of_row _ _ 1 _ _ _ HVS_2.out).trans rfl
          have k_S_2 := (cell_of_row _ _ 2 _ _ _ HVS_2.out).trans rfl
          have k_S_3 := (cell_of_row _ _ 3 _ _ _ HVS_2.out).trans rfl
          go_wp2_with (go_at_call 64; refine (CB.out _).mono ?_; rintro e w3 ⟨rfl, hb3⟩; refine Hid.out ?_)
          refine hid ?_
          clear k_S_0 k_S_1 k_S_2 k_S_3
          have hz3 := hb3.size
          have HB0_3 := hid (HB0_2.out.trans (hb3.mono HB0_2.out.size))
          have HVS_3 := hid ((hb3.block _ (by omega)).trans HVS_2.out)
          clear HB0_2 HVS_2
          clear hb3
          go_wp2
          go_ret
          exact ⟨by rw [HR.out]; (first | rfl | simp | (simp; omega) | (congr 2; simp; omega)), HB0_3.out⟩

set_option maxRecDepth 20000 in
set_option maxHeartbeats 4000000 in
theorem right_impl (x0 x1 : Int) (x2 x3 : ByteArray) (w : World) (hT : Tab w) (hG : 0 < w.heap.size) :
    Calls Tryd.prog 136 #[.agg #[.int .i64 x0, .int .i64 x1, .string x2, .string x3]] w fun e w' => e = .returned (.bool (sealB ⟨x0, x1, x2, x3⟩)) ∧ Below w.heap.size w w' := by
  have HR : Hid (sealB ⟨x0, x1, x2, x3⟩ = (decide (0 ≤ x0 ∧ x0 ≤ 7) && (decide (1 ≤ x1 ∧ x1 ≤ 255) && (decide ((nodeOf x2).1 ≠ 0) && decide ((nodeOf x3).1 ≠ 0))))) := hid rfl
  have C1 := hid (fun W => isSlot_calls x0 W)
  have C2 := hid (fun W => isMask_calls x1 W)
  have CA := hid (fun W hT hG => kind_impl x2 W hT hG)
  have CB := hid (fun W hT hG => kind_impl x3 W hT hG)
  have HTAB := hid hT
  clear hT
  generalize sealB ⟨x0, x1, x2, x3⟩ = r at *
  generalize (nodeOf x2).1 = k2 at *
  generalize (nodeOf x3).1 = k3 at *
  have HB0_0 : Hid (Below w.heap.size w w) := hid (Below.refl _ _)
  have hz0 : w.heap.size ≤ w.heap.size := Nat.le_refl _
  obtain ⟨w1, hw1⟩ : ∃ W, W = w.alloc (.cells #[.int .i64 x0, .int .i64 x1, .string x2, .string x3] 68) := ⟨_, rfl⟩
  have hb1 : Below w.heap.size w w1 := by rw [hw1]; exact (Below.refl _ _).alloc (Nat.le_refl _) _
  have hz1 : w.heap.size < w1.heap.size := by rw [hw1]; simp
  have HVS_1 : Hid (w1.heap[w.heap.size]? = some (.cells #[.int .i64 x0, .int .i64 x1, .string x2, .string x3] 68)) := hid (by rw [hw1]; exact heap_alloc_new _ _)
  have HW1 := hid hw1
  have HB0_1 := hid (HB0_0.out.trans (hb1.mono HB0_0.out.size))
  clear hw1 hb1
  cases h1 : decide (0 ≤ x0 ∧ x0 ≤ 7) with
  | false =>
    rw [h1] at C1 HR
    clear h1
    go_enter Tryd.func136, Tryd.ntmps136
    go_wp2_with (go_at_call 169; rw [← HW1.out]; refine (C1.out _).mono ?_; rintro e wq ⟨rfl, eq⟩; rw [eq]; clear eq wq; refine Hid.out ?_)
    refine hid ?_
    go_wp2
    go_ret
    exact ⟨by rw [HR.out]; (first | rfl | simp | (simp; omega) | (congr 2; simp; omega)), HB0_1.out⟩
  | true =>
    rw [h1] at C1 HR
    clear h1
    cases h2 : decide (1 ≤ x1 ∧ x1 ≤ 255) with
    | false =>
      rw [h2] at C2 HR
      clear h2
      go_enter Tryd.func136, Tryd.ntmps136
      go_wp2_with (go_at_call 169; rw [← HW1.out]; refine (C1.out _).mono ?_; rintro e wq ⟨rfl, eq⟩; rw [eq]; clear eq wq; refine Hid.out ?_)
      refine hid ?_
      have k_S_0 := (cell_of_row _ _ 0 _ _ _ HVS_1.out).trans rfl
      have k_S_1 := (cell_of_row _ _ 1 _ _ _ HVS_1.out).trans rfl
      have k_S_2 := (cell_of_row _ _ 2 _ _ _ HVS_1.out).trans rfl
      have k_S_3 := (cell_of_row _ _ 3 _ _ _ HVS_1.out).trans rfl
      go_wp2_with (go_at_call 113; refine (C2.out _).mono ?_; rintro e wq ⟨rfl, eq⟩; rw [eq]; clear eq wq; refine Hid.out ?_)
      refine hid ?_
      go_wp2
      go_ret
      exact ⟨by rw [HR.out]; (first | rfl | simp | (simp; omega) | (congr 2; simp; omega)), HB0_1.out⟩
    | true =>
      rw [h2] at C2 HR
      clear h2
      by_cases hk2 : k2 = 0
      · subst hk2
        go_enter Tryd.func136, Tryd.ntmps136
        go_wp2_with (go_at_call 169; rw [← HW1.out]; refine (C1.out _).mono ?_; rintro e wq ⟨rfl, eq⟩; rw [eq]; clear eq wq; refine Hid.out ?_)
        refine hid ?_
        have k_S_0 := (cell_of_row _ _ 0 _ _ _ HVS_1.out).trans rfl
        have k_S_1 := (cell_of_row _ _ 1 _ _ _ HVS_1.out).trans rfl
        have k_S_2 := (cell_of_row _ _ 2 _ _ _ HVS_1.out).trans rfl
        have k_S_3 := (cell_of_row _ _ 3 _ _ _ HVS_1.out).trans rfl
        go_wp2_with (go_at_call 113; refine (C2.out _).mono ?_; rintro e wq ⟨rfl, eq⟩; rw [eq]; clear eq wq; refine Hid.out ?_)
        refine hid ?_
        go_wp2_with (go_at_call 145; refine (CA.out _ (tab_on HTAB.out hG HB0_1.out) (Nat.lt_of_lt_of_le hG HB0_1.out.size)).mono ?_; rintro e w2 ⟨rfl, hb2⟩; refine Hid.out ?_)
        refine hid ?_
        clear k_S_0 k_S_1 k_S_2 k_S_3
        have hz2 := hb2.size
        have HB0_2 := hid (HB0_1.out.trans (hb2.mono HB0_1.out.size))
        have HVS_2 := hid ((hb2.block _ (by omega)).trans HVS_1.out)
        clear HB0_1 HVS_1
        clear hb2
        go_wp2
        go_ret
        exact ⟨by rw [HR.out]; (first | rfl | simp | (simp; omega) | (congr 2; simp; omega)), HB0_2.out⟩
      · obtain ⟨m2, rfl⟩ := Nat.exists_eq_succ_of_ne_zero hk2
        have g2 : ((m2 + 1 : Nat) : Int) > 0 := by omega
        have g2b : (((m2 + 1 : Nat) : Int) != 0) = true := by simp; omega
        by_cases hk3 : k3 = 0
        · subst hk3
          go_enter Tryd.func136, Tryd.ntmps136
          go_wp2_with (go_at_call 169; rw [← HW1.out]; refine (C1.out _).mono ?_; rintro e wq ⟨rfl, eq⟩; rw [eq]; clear eq wq; refine Hid.out ?_)
          refine hid ?_
          have k_S_0 := (cell_of_row _ _ 0 _ _ _ HVS_1.out).trans rfl
          have k_S_1 := (cell_of_row _ _ 1 _ _ _ HVS_1.out).trans rfl
          have k_S_2 := (cell_of_row _ _ 2 _ _ _ HVS_1.out).trans rfl
          have k_S_3 := (cell_of_row _ _ 3 _ _ _ HVS_1.out).trans rfl
          go_wp2_with (go_at_call 113; refine (C2.out _).mono ?_; rintro e wq ⟨rfl, eq⟩; rw [eq]; clear eq wq; refine Hid.out ?_)
          refine hid ?_
          go_wp2_with (go_at_call 145; refine (CA.out _ (tab_on HTAB.out hG HB0_1.out) (Nat.lt_of_lt_of_le hG HB0_1.out.size)).mono ?_; rintro e w2 ⟨rfl, hb2⟩; refine Hid.out ?_)
          refine hid ?_
          clear k_S_0 k_S_1 k_S_2 k_S_3
          have hz2 := hb2.size
          have HB0_2 := hid (HB0_1.out.trans (hb2.mono HB0_1.out.size))
          have HVS_2 := hid ((hb2.block _ (by omega)).trans HVS_1.out)
          clear HB0_1 HVS_1
          clear hb2
          have k_S_0 := (cell_of_row _ _ 0 _ _ _ HVS_2.out).trans rfl
          have k_S_1 := (cell_of_row _ _ 1 _ _ _ HVS_2.out).trans rfl
          have k_S_2 := (cell_of_row _ _ 2 _ _ _ HVS_2.out).trans rfl
          have k_S_3 := (cell_of_row _ _ 3 _ _ _ HVS_2.out).trans rfl
          go_wp2_with (go_at_call 145; refine (CB.out _ (tab_on HTAB.out hG HB0_2.out) (Nat.lt_of_lt_of_le hG HB0_2.out.size)).mono ?_; rintro e w3 ⟨rfl, hb3⟩; refine Hid.out ?_)
          refine hid ?_
          clear k_S_0 k_S_1 k_S_2 k_S_3
          have hz3 := hb3.size
          have HB0_3 := hid (HB0_2.out.trans (hb3.mono HB0_2.out.size))
          have HVS_3 := hid ((hb3.block _ (by omega)).trans HVS_2.out)
          clear HB0_2 HVS_2
          clear hb3
          go_wp2
          go_ret
          exact ⟨by rw [HR.out]; (first | rfl | simp | (simp; omega) | (congr 2; simp; omega)), HB0_3.out⟩
        · obtain ⟨m3, rfl⟩ := Nat.exists_eq_succ_of_ne_zero hk3
          have g3 : ((m3 + 1 : Nat) : Int) > 0 := by omega
          have g3b : (((m3 + 1 : Nat) : Int) != 0) = true := by simp; omega
          go_enter Tryd.func136, Tryd.ntmps136
          go_wp2_with (go_at_call 169; rw [← HW1.out]; refine (C1.out _).mono ?_; rintro e wq ⟨rfl, eq⟩; rw [eq]; clear eq wq; refine Hid.out ?_)
          refine hid ?_
          have k_S_0 := (cell_of_row _ _ 0 _ _ _ HVS_1.out).trans rfl
          have k_S_1 := (cell_of_row _ _ 1 _ _ _ HVS_1.out).trans rfl
          have k_S_2 := (cell_of_row _ _ 2 _ _ _ HVS_1.out).trans rfl
          have k_S_3 := (cell_of_row _ _ 3 _ _ _ HVS_1.out).trans rfl
          go_wp2_with (go_at_call 113; refine (C2.out _).mono ?_; rintro e wq ⟨rfl, eq⟩; rw [eq]; clear eq wq; refine Hid.out ?_)
          refine hid ?_
          go_wp2_with (go_at_call 145; refine (CA.out _ (tab_on HTAB.out hG HB0_1.out) (Nat.lt_of_lt_of_le hG HB0_1.out.size)).mono ?_; rintro e w2 ⟨rfl, hb2⟩; refine Hid.out ?_)
          refine hid ?_
          clear k_S_0 k_S_1 k_S_2 k_S_3
          have hz2 := hb2.size
          have HB0_2 := hid (HB0_1.out.trans (hb2.mono HB0_1.out.size))
          have HVS_2 := hid ((hb2.block _ (by omega)).trans HVS_1.out)
          clear HB0_1 HVS_1
          clear hb2
          have k_S_0 := (cell_of_row _ _ 0 _ _ _ HVS_2.out).trans rfl
          have k_S_1 := (cell_of_row _ _ 1 _ _ _ HVS_2.out).trans rfl
          have k_S_2 := (cell_of_row _ _ 2 _ _ _ HVS_2.out).trans rfl
          have k_S_3 := (cell_of_row _ _ 3 _ _ _ HVS_2.out).trans rfl
          go_wp2_with (go_at_call 145; refine (CB.out _ (tab_on HTAB.out hG HB0_2.out) (Nat.lt_of_lt_of_le hG HB0_2.out.size)).mono ?_; rintro e w3 ⟨rfl, hb3⟩; refine Hid.out ?_)
          refine hid ?_
          clear k_S_0 k_S_1 k_S_2 k_S_3
          have hz3 := hb3.size
          have HB0_3 := hid (HB0_2.out.trans (hb3.mono HB0_2.out.size))
          have HVS_3 := hid ((hb3.block _ (by omega)).trans HVS_2.out)
          clear HB0_2 HVS_2
          clear hb3
          go_wp2
          go_ret
          exact ⟨by rw [HR.out]; (first | rfl | simp | (simp; omega) | (congr 2; simp; omega)), HB0_3.out⟩
end Go.Proofs.YtponjghppnpnhaaDoor
