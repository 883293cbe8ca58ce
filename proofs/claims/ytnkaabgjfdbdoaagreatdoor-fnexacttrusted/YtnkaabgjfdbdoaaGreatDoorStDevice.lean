/- The helpers of the laws on a Device: its size, a copy; what the Root's and the Vault's do comes in. -/
import Derived.Test.YtnkaabgjfdbdoaaGreatDoorPackRR
import Derived.Test.YtnkaabgjfdbdoaaGreatDoorRowEvent
import Derived.Test.YtnkaabgjfdbdoaaGreatDoorPackKt
namespace Go.Proofs.YtnkaabgjfdbdoaaGreatDoor
open Go.RowKit
open Go.Lib (hid)

set_option maxRecDepth 20000 in
set_option maxHeartbeats 4000000 in
theorem sz_device (name key : ByteArray) (sz : Int) (p1 : Option Addr) (n1 c1 : Nat) (up : Bool) (p2 : Option Addr) (n2 c2 : Nat) (p3 : Option Addr) (n3 c3 : Nat) (st y0 y1 : Int) (y2 y3 : ByteArray) (ims : List ImageD) (p4 : Option Addr) (c4 : Nat) (es : List EventD) (p5 : Option Addr) (c5 : Nat) (hname : name.size ≤ 9223372036854775807) (hi : ∀ e ∈ ims, tameImage e) (hin : ims.length ≤ maxLen) (he : ∀ e ∈ es, tameEvent e) (hen : es.length ≤ maxLen) (R V : Nat) (w : World)
    (h4 : FArg encImage 2 w (.slice p4 ims.length c4) ims) (h5 : FArg encEvent 2 w (.slice p5 es.length c5) es)
    (CR : ∀ W, Below w.heap.size w W → ∀ k : Nat, k ≤ 1048576 → Calls Tryz.prog 28 #[.agg #[.string key, .int .i64 sz, .slice p1 n1 c1, .bool up, .slice p2 n2 c2], .int .i64 k] W fun e w' => (∃ r : Int, e = .returned (.int .i64 r) ∧ (r < 0 ∨ 0 ≤ r ∧ r + (R : Int) = k)) ∧ Below W.heap.size W w')
    (CV : ∀ W, Below w.heap.size w W → ∀ k : Nat, k ≤ 1048576 → Calls Tryz.prog 29 #[.agg #[.slice p3 n3 c3, .int .i64 st, .int .i64 y0, .int .i64 y1, .string y2, .string y3], .int .i64 k] W fun e w' => (∃ r : Int, e = .returned (.int .i64 r) ∧ (r < 0 ∨ 0 ≤ r ∧ r + (V : Int) = k)) ∧ Below W.heap.size W w') :
    Calls Tryz.prog 8 #[.agg #[.string name, .string key, .int .i64 sz, .slice p1 n1 c1, .bool up, .slice p2 n2 c2, .slice p3 n3 c3, .int .i64 st, .int .i64 y0, .int .i64 y1, .string y2, .string y3, .slice p4 ims.length c4, .slice p5 es.length c5], .int .i64 1048576] w fun e w' => (∃ r : Int, e = .returned (.int .i64 r) ∧ (r < 0 ∨ 0 ≤ r ∧ r + ((name.size + R + V + (ims.length + used szImageN ims) + (es.length + used szEventN es) : Nat) : Int) = 1048576)) ∧ Below w.heap.size w w' := by
  have HF4 := hid h4
  have HF5 := hid h5
  have CR := hid CR
  have CV := hid CV
  have CI := hid (fun k hk W ha => sz_Images ims hi hin k hk (.slice p4 ims.length c4) W ha)
  have CE := hid (fun k hk W ha => sz_Events es he hen k hk (.slice p5 es.length c5) W ha)
  clear h4 h5 hi he
  by_cases hk : name.size ≤ 1048576
  · have hk1 : ¬ (1048576 : Int) - (name.size : Int) < 0 := by omega
    have hkc : (1048576 : Int) - (name.size : Int) = ((1048576 - name.size : Nat) : Int) := by omega
    have HX : Hid ((1048576 - name.size : Nat) + name.size = 1048576) := hid (by omega)
    have hm : (1048576 - name.size : Nat) ≤ 1048576 := by omega
    generalize (1048576 - name.size : Nat) = m at *
    have HB0_0 : Hid (Below w.heap.size w w) := hid (Below.refl _ _)
    have hz0 : w.heap.size ≤ w.heap.size := Nat.le_refl _
    go_enter Tryz.func8, Tryz.ntmps8
    obtain ⟨w1, hw1⟩ : ∃ W, W = w.alloc (.cells #[.string name, .string key, .int .i64 sz, .slice p1 n1 c1, .bool up, .slice p2 n2 c2, .slice p3 n3 c3, .int .i64 st, .int .i64 y0, .int .i64 y1, .string y2, .string y3, .slice p4 ims.length c4, .slice p5 es.length c5] 36) := ⟨_, rfl⟩
    have hb1 : Below w.heap.size w w1 := by rw [hw1]; exact (Below.refl _ _).alloc (Nat.le_refl _) _
    have hz1 : w.heap.size < w1.heap.size := by rw [hw1]; simp
    have HVA_1 : Hid (w1.heap[w.heap.size]? = some (.cells #[.string name, .string key, .int .i64 sz, .slice p1 n1 c1, .bool up, .slice p2 n2 c2, .slice p3 n3 c3, .int .i64 st, .int .i64 y0, .int .i64 y1, .string y2, .string y3, .slice p4 ims.length c4, .slice p5 es.length c5] 36)) := hid (by rw [hw1]; exact heap_alloc_new _ _)
    have HW1 := hid hw1
    have HB0_1 := hid (HB0_0.out.trans (hb1.mono HB0_0.out.size))
    clear hw1 hb1
    go_wp2_with (go_at_call 28; rw [← HW1.out]; refine (CR.out _ HB0_1.out m hm).mono ?_; rintro e w2 ⟨⟨q1, rfl, hq1⟩, hb2⟩; refine Hid.out ?_)
    refine hid ?_
    have hz2 := hb2.size
    have HB0_2 := hid (HB0_1.out.trans (hb2.mono HB0_1.out.size))
    have HVA_2 := hid ((hb2.block _ (by omega)).trans HVA_1.out)
    clear HB0_1 HVA_1
    clear hb2
    rcases hq1 with hq1 | ⟨hq1, htq1⟩
    · go_wp2
      go_ret
      exact ⟨⟨-1, rfl, Or.inl (by omega)⟩, HB0_2.out⟩
    · skip
      obtain ⟨q1, rfl⟩ := Int.eq_ofNat_of_zero_le hq1
      have hnq1 : ¬ (q1 : Int) < 0 := by omega
      have hmq1 : q1 ≤ 1048576 := by omega
      have HTq1 := hid htq1
      clear htq1 hq1
      have k_A_0 := (cell_of_row _ _ 0 _ _ _ HVA_2.out).trans rfl
      have k_A_1 := (cell_of_row _ _ 1 _ _ _ HVA_2.out).trans rfl
      have k_A_2 := (cell_of_row _ _ 2 _ _ _ HVA_2.out).trans rfl
      have k_A_3 := (cell_of_row _ _ 3 _ _ _ HVA_2.out).trans rfl
      have k_A_4 := (cell_of_row _ _ 4 _ _ _ HVA_2.out).trans rfl
      have k_A_5 := (cell_of_row _ _ 5 _ _ _ HVA_2.out).trans rfl
      have k_A_6 := (cell_of_row _ _ 6 _ _ _ HVA_2.out).trans rfl
      have k_A_7 := (cell_of_row _ _ 7 _ _ _ HVA_2.out).trans rfl
      have k_A_8 := (cell_of_row _ _ 8 _ _ _ HVA_2.out).trans rfl
      have k_A_9 := (cell_of_row _ _ 9 _ _ _ HVA_2.out).trans rfl
      have k_A_10 := (cell_of_row _ _ 10 _ _ _ HVA_2.out).trans rfl
      have k_A_11 := (cell_of_row _ _ 11 _ _ _ HVA_2.out).trans rfl
      have k_A_12 := (cell_of_row _ _ 12 _ _ _ HVA_2.out).trans rfl
      have k_A_13 := (cell_of_row _ _ 13 _ _ _ HVA_2.out).trans rfl
      go_wp2_with (go_at_call 29; refine (CV.out _ HB0_2.out q1 hmq1).mono ?_; rintro e w3 ⟨⟨q2, rfl, hq2⟩, hb3⟩; refine Hid.out ?_)
      refine hid ?_
      clear k_A_0 k_A_1 k_A_2 k_A_3 k_A_4 k_A_5 k_A_6 k_A_7 k_A_8 k_A_9 k_A_10 k_A_11 k_A_12 k_A_13
      have hz3 := hb3.size
      have HB0_3 := hid (HB0_2.out.trans (hb3.mono HB0_2.out.size))
      have HVA_3 := hid ((hb3.block _ (by omega)).trans HVA_2.out)
      clear HB0_2 HVA_2
      clear hb3
      rcases hq2 with hq2 | ⟨hq2, htq2⟩
      · go_wp2
        go_ret
        exact ⟨⟨-1, rfl, Or.inl (by omega)⟩, HB0_3.out⟩
      · skip
        obtain ⟨q2, rfl⟩ := Int.eq_ofNat_of_zero_le hq2
        have hnq2 : ¬ (q2 : Int) < 0 := by omega
        have hmq2 : q2 ≤ 1048576 := by omega
        have HTq2 := hid htq2
        clear htq2 hq2
        have k_A_0 := (cell_of_row _ _ 0 _ _ _ HVA_3.out).trans rfl
        have k_A_1 := (cell_of_row _ _ 1 _ _ _ HVA_3.out).trans rfl
        have k_A_2 := (cell_of_row _ _ 2 _ _ _ HVA_3.out).trans rfl
        have k_A_3 := (cell_of_row _ _ 3 _ _ _ HVA_3.out).trans rfl
        have k_A_4 := (cell_of_row _ _ 4 _ _ _ HVA_3.out).trans rfl
        have k_A_5 := (cell_of_row _ _ 5 _ _ _ HVA_3.out).trans rfl
        have k_A_6 := (cell_of_row _ _ 6 _ _ _ HVA_3.out).trans rfl
        have k_A_7 := (cell_of_row _ _ 7 _ _ _ HVA_3.out).trans rfl
        have k_A_8 := (cell_of_row _ _ 8 _ _ _ HVA_3.out).trans rfl
        have k_A_9 := (cell_of_row _ _ 9 _ _ _ HVA_3.out).trans rfl
        have k_A_10 := (cell_of_row _ _ 10 _ _ _ HVA_3.out).trans rfl
        have k_A_11 := (cell_of_row _ _ 11 _ _ _ HVA_3.out).trans rfl
        have k_A_12 := (cell_of_row _ _ 12 _ _ _ HVA_3.out).trans rfl
        have k_A_13 := (cell_of_row _ _ 13 _ _ _ HVA_3.out).trans rfl
        go_wp2_with (go_at_call 13; refine (CI.out q2 hmq2 _ (HF4.out.on HB0_3.out)).mono ?_; rintro e w4 ⟨⟨q3, rfl, hq3⟩, hb4⟩; refine Hid.out ?_)
        refine hid ?_
        clear k_A_0 k_A_1 k_A_2 k_A_3 k_A_4 k_A_5 k_A_6 k_A_7 k_A_8 k_A_9 k_A_10 k_A_11 k_A_12 k_A_13
        have hz4 := hb4.size
        have HB0_4 := hid (HB0_3.out.trans (hb4.mono HB0_3.out.size))
        have HVA_4 := hid ((hb4.block _ (by omega)).trans HVA_3.out)
        clear HB0_3 HVA_3
        clear hb4
        rcases hq3 with hq3 | ⟨hq3, htq3⟩
        · go_wp2
          go_ret
          exact ⟨⟨-1, rfl, Or.inl (by omega)⟩, HB0_4.out⟩
        · skip
          obtain ⟨q3, rfl⟩ := Int.eq_ofNat_of_zero_le hq3
          have hnq3 : ¬ (q3 : Int) < 0 := by omega
          have hmq3 : q3 ≤ 1048576 := by omega
          have HTq3 := hid htq3
          clear htq3 hq3
          have k_A_0 := (cell_of_row _ _ 0 _ _ _ HVA_4.out).trans rfl
          have k_A_1 := (cell_of_row _ _ 1 _ _ _ HVA_4.out).trans rfl
          have k_A_2 := (cell_of_row _ _ 2 _ _ _ HVA_4.out).trans rfl
          have k_A_3 := (cell_of_row _ _ 3 _ _ _ HVA_4.out).trans rfl
          have k_A_4 := (cell_of_row _ _ 4 _ _ _ HVA_4.out).trans rfl
          have k_A_5 := (cell_of_row _ _ 5 _ _ _ HVA_4.out).trans rfl
          have k_A_6 := (cell_of_row _ _ 6 _ _ _ HVA_4.out).trans rfl
          have k_A_7 := (cell_of_row _ _ 7 _ _ _ HVA_4.out).trans rfl
          have k_A_8 := (cell_of_row _ _ 8 _ _ _ HVA_4.out).trans rfl
          have k_A_9 := (cell_of_row _ _ 9 _ _ _ HVA_4.out).trans rfl
          have k_A_10 := (cell_of_row _ _ 10 _ _ _ HVA_4.out).trans rfl
          have k_A_11 := (cell_of_row _ _ 11 _ _ _ HVA_4.out).trans rfl
          have k_A_12 := (cell_of_row _ _ 12 _ _ _ HVA_4.out).trans rfl
          have k_A_13 := (cell_of_row _ _ 13 _ _ _ HVA_4.out).trans rfl
          go_wp2_with (go_at_call 30; refine (CE.out q3 hmq3 _ (HF5.out.on HB0_4.out)).mono ?_; rintro e w5 ⟨⟨q4, rfl, hq4⟩, hb5⟩; refine Hid.out ?_)
          refine hid ?_
          clear k_A_0 k_A_1 k_A_2 k_A_3 k_A_4 k_A_5 k_A_6 k_A_7 k_A_8 k_A_9 k_A_10 k_A_11 k_A_12 k_A_13
          have hz5 := hb5.size
          have HB0_5 := hid (HB0_4.out.trans (hb5.mono HB0_4.out.size))
          have HVA_5 := hid ((hb5.block _ (by omega)).trans HVA_4.out)
          clear HB0_4 HVA_4
          clear hb5
          rcases hq4 with hq4 | ⟨hq4, htq4⟩
          · go_wp2
            go_ret
            exact ⟨⟨-1, rfl, Or.inl (by omega)⟩, HB0_5.out⟩
          · skip
            obtain ⟨q4, rfl⟩ := Int.eq_ofNat_of_zero_le hq4
            have hnq4 : ¬ (q4 : Int) < 0 := by omega
            have hmq4 : q4 ≤ 1048576 := by omega
            have HTq4 := hid htq4
            clear htq4 hq4
            go_wp2
            go_ret
            exact ⟨⟨(q4 : Int), rfl, Or.inr ⟨by omega, by have h1 := HX.out; have h2 := HTq1.out; have h3 := HTq2.out; have h4 := HTq3.out; have h5 := HTq4.out; omega⟩⟩, HB0_5.out⟩
  · have hk1 : (1048576 : Int) - (name.size : Int) < 0 := by omega
    go_enter Tryz.func8, Tryz.ntmps8
    go_wp2
    go_ret
    exact ⟨⟨-1, rfl, Or.inl (by omega)⟩, (Below.refl _ _).alloc (Nat.le_refl _) _⟩
end Go.Proofs.YtnkaabgjfdbdoaaGreatDoor
