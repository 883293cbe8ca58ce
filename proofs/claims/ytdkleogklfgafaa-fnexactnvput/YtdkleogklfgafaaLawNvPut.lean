/- The law on NvPut, walked: it answers true. -/
import Derived.Test.YtdkleogklfgafaaNvPutBoth
import Derived.Test.YtdkleogklfgafaaNvRHelp
import Derived.Test.YtdkleogklfgafaaLawKit
namespace Go.Proofs.Ytdkleogklfgafaa
open Go.RowKit
open Go.Lib (hid)

set_option maxRecDepth 20000 in
set_option maxHeartbeats 4000000 in
theorem law_put_calls (s : Int) (l vs : List Int) (hm : l.length ≤ maxLen) (cnt : Int) (hcn : cnt ≤ 9223372036854775807) (a b : Value) (w : World) (ha : ArgInts w a l) (hb : ArgInts w b vs) :
    Calls Try.prog 6 #[.agg #[.int .i64 s, a], b, .int .i64 cnt] w fun e w' => e = .returned (.bool true) ∧ Below w.heap.size w w' := by
  have HFa := hid ha
  have HFb := hid hb
  have CZ := hid (fun a W (hW : ArgInts W a l) => sz_nv s l hm 1048576 (Nat.le_refl _) a W hW)
  obtain ⟨p0, c0, rfl, _⟩ := ha
  obtain ⟨q0, d0, rfl, _⟩ := hb
  have HB0_0 : Hid (Below w.heap.size w w) := hid (Below.refl _ _)
  have hz0 : w.heap.size ≤ w.heap.size := Nat.le_refl _
  obtain ⟨w1, hw1⟩ : ∃ W, W = w.alloc (.cells #[.int .i64 s, .slice p0 l.length c0] 35) := ⟨_, rfl⟩
  have hb1 : Below w.heap.size w w1 := by rw [hw1]; exact (Below.refl _ _).alloc (Nat.le_refl _) _
  have hz1 : w.heap.size < w1.heap.size := by rw [hw1]; simp
  have HVA_1 : Hid (w1.heap[w.heap.size]? = some (.cells #[.int .i64 s, .slice p0 l.length c0] 35)) := hid (by rw [hw1]; exact heap_alloc_new _ _)
  have HW1 := hid hw1
  have HB0_1 := hid (HB0_0.out.trans (hb1.mono HB0_0.out.size))
  clear hw1 hb1
  by_cases hvl : vs.length ≤ 1048576
  · skip
    have hvd : ¬ (vs.length : Int) > 1048576 := by omega
    by_cases hl : l.length ≤ 1048576
    · skip
      rw [if_pos hl] at CZ
      have hd : ¬ ((1048576 - l.length : Nat) : Int) < 0 := by omega
      generalize ((1048576 - l.length : Nat) : Int) = z at *
      have hfew := putOut_few s l vs cnt hl
      have CI := hid (fun a b w ha hb => put_impl s l vs hl hvl cnt hcn a b w ha hb)
      have CS := hid (fun a b w ha hb hn => put_spec s l vs hl hvl cnt hcn a b w ha hb hn)
      unfold PutPost at CI CS
      have TA := hid (fun a W (hW : ArgInts W a l) => to_nv s l hl a W hW)
      generalize (putOut s l vs cnt).1 = rs at *
      generalize (putOut s l vs cnt).2.2 = rb at *
      generalize (putOut s l vs cnt).2.1 = L at *
      have hbb : (rb != rb) = false := by cases rb <;> rfl
      have hmm : ¬ ((1 + l.length + vs.length : Nat) : Int) < 0 := by omega
      go_enter Try.func6, Try.ntmps6
      go_wp2_with (go_at_call 14; rw [← HW1.out]; refine (CZ.out _ _ (HFa.out.on HB0_1.out)).mono ?_; rintro e w2 ⟨rfl, hb2⟩; refine Hid.out ?_)
      refine hid ?_
      have hz2 := hb2.size
      have HB0_2 := hid (HB0_1.out.trans (hb2.mono HB0_1.out.size))
      have HVA_2 := hid ((hb2.block _ (by omega)).trans HVA_1.out)
      clear HB0_1 HVA_1
      clear hb2
      have k_A_0 := (cell_of_row _ _ 0 _ _ _ HVA_2.out).trans rfl
      have k_A_1 := (cell_of_row _ _ 1 _ _ _ HVA_2.out).trans rfl
      go_wp2_with (go_at_call 17; refine (TA.out _ _ (HFa.out.on HB0_2.out)).mono ?_; rintro e w3 ⟨sv3, rfl, hb3, ho3⟩; refine Hid.out ?_)
      refine hid ?_
      clear k_A_0 k_A_1
      have hz3 := hb3.size
      have HB0_3 := hid (HB0_2.out.trans (hb3.mono HB0_2.out.size))
      have HVA_3 := hid ((hb3.block _ (by omega)).trans HVA_2.out)
      clear HB0_2 HVA_2
      have HB3_3 : Hid (Below w3.heap.size w3 w3) := hid (Below.refl _ _)
      have HOt1_3 := hid ho3
      have HLt1 := hid (ho3.lt)
      obtain ⟨p3, c3, rfl, _, _⟩ := row_in_own HOt1_3.out
      clear hb3 ho3
      go_wp2_with (go_at_call 25; refine (to_ints vs hvl _ _ (HFb.out.on HB0_3.out)).mono ?_; rintro e w4 ⟨rfl, hb4, ho4⟩; refine Hid.out ?_)
      refine hid ?_
      have hz4 := hb4.size
      have HB0_4 := hid (HB0_3.out.trans (hb4.mono HB0_3.out.size))
      have HB3_4 := hid (HB3_3.out.trans (hb4.mono HB3_3.out.size))
      have HOt1_4 := hid (own_below HOt1_3.out hb4)
      have HVA_4 := hid ((hb4.block _ (by omega)).trans HVA_3.out)
      clear HB0_3 HB3_3 HOt1_3 HVA_3
      have HB4_4 : Hid (Below w4.heap.size w4 w4) := hid (Below.refl _ _)
      have HOt2_4 := hid ho4
      have HLt2 := hid (ho4.lt)
      clear hb4 ho4
      go_wp2_with (go_at_call 9; refine (CS.out _ _ _ (row_in_own HOt1_4.out) (row_in_own HOt2_4.out) (fun c h => by cases h)).mono ?_; rintro e w5 ⟨sv5, rfl, hb5, ho5⟩; refine Hid.out ?_)
      refine hid ?_
      have hz5 := hb5.size
      have HB0_5 := hid (HB0_4.out.trans (hb5.mono HB0_4.out.size))
      have HB3_5 := hid (HB3_4.out.trans (hb5.mono HB3_4.out.size))
      have HB4_5 := hid (HB4_4.out.trans (hb5.mono HB4_4.out.size))
      have HOt1_5 := hid (own_below HOt1_4.out hb5)
      have HOt2_5 := hid (own_below HOt2_4.out hb5)
      have HVA_5 := hid ((hb5.block _ (by omega)).trans HVA_4.out)
      clear HB0_4 HB3_4 HB4_4 HOt1_4 HOt2_4 HVA_4
      have HB5_5 : Hid (Below w5.heap.size w5 w5) := hid (Below.refl _ _)
      have HOw0_5 := hid ho5
      have HLw0 := hid (ho5.lt)
      obtain ⟨p5, c5, rfl, _, _⟩ := row_in_own HOw0_5.out
      clear hb5 ho5
      obtain ⟨w6, hw6⟩ : ∃ W, W = w5.alloc (.cells #[.int .i64 rs, .slice p5 L.length c5] 26) := ⟨_, rfl⟩
      have hb6 : Below w5.heap.size w5 w6 := by rw [hw6]; exact (Below.refl _ _).alloc (Nat.le_refl _) _
      have hz6 : w5.heap.size < w6.heap.size := by rw [hw6]; simp
      have HVW_6 : Hid (w6.heap[w5.heap.size]? = some (.cells #[.int .i64 rs, .slice p5 L.length c5] 26)) := hid (by rw [hw6]; exact heap_alloc_new _ _)
      have HW6 := hid hw6
      have HB0_6 := hid (HB0_5.out.trans (hb6.mono HB0_5.out.size))
      have HB3_6 := hid (HB3_5.out.trans (hb6.mono HB3_5.out.size))
      have HB4_6 := hid (HB4_5.out.trans (hb6.mono HB4_5.out.size))
      have HB5_6 := hid (HB5_5.out.trans (hb6.mono HB5_5.out.size))
      have HOt1_6 := hid (own_below HOt1_5.out hb6)
      have HOt2_6 := hid (own_below HOt2_5.out hb6)
      have HOw0_6 := hid (own_below HOw0_5.out hb6)
      have HVA_6 := hid ((hb6.block _ (by omega)).trans HVA_5.out)
      clear HB0_5 HB3_5 HB4_5 HB5_5 HOt1_5 HOt2_5 HOw0_5
      clear hw6 hb6
      have kz_A : w.heap.size < w5.heap.size := by omega
      have k_A_0 := (cell_of_row _ _ 0 _ _ _ HVA_5.out).trans rfl
      have k_A_1 := (cell_of_row _ _ 1 _ _ _ HVA_5.out).trans rfl
      go_wp2_with (go_at_call 17; rw [← HW6.out]; refine (TA.out _ _ (HFa.out.on HB0_6.out)).mono ?_; rintro e w7 ⟨sv7, rfl, hb7, ho7⟩; refine Hid.out ?_)
      refine hid ?_
      clear kz_A k_A_0 k_A_1
      clear HVA_5
      have hz7 := hb7.size
      have HB0_7 := hid (HB0_6.out.trans (hb7.mono HB0_6.out.size))
      have HB3_7 := hid (HB3_6.out.trans (hb7.mono HB3_6.out.size))
      have HB4_7 := hid (HB4_6.out.trans (hb7.mono HB4_6.out.size))
      have HB5_7 := hid (HB5_6.out.trans (hb7.mono HB5_6.out.size))
      have HOt1_7 := hid (own_below HOt1_6.out hb7)
      have HOt2_7 := hid (own_below HOt2_6.out hb7)
      have HOw0_7 := hid (own_below HOw0_6.out hb7)
      have HVA_7 := hid ((hb7.block _ (by omega)).trans HVA_6.out)
      have HVW_7 := hid ((hb7.block _ (by omega)).trans HVW_6.out)
      clear HB0_6 HB3_6 HB4_6 HB5_6 HOt1_6 HOt2_6 HOw0_6 HVA_6 HVW_6
      have HB7_7 : Hid (Below w7.heap.size w7 w7) := hid (Below.refl _ _)
      have HOx0_7 := hid ho7
      have HLx0 := hid (ho7.lt)
      obtain ⟨p7, c7, rfl, _, _⟩ := row_in_own HOx0_7.out
      clear hb7 ho7
      obtain ⟨w8, hw8⟩ : ∃ W, W = w7.alloc (.cells #[.int .i64 s, .slice p7 l.length c7] 26) := ⟨_, rfl⟩
      have hb8 : Below w7.heap.size w7 w8 := by rw [hw8]; exact (Below.refl _ _).alloc (Nat.le_refl _) _
      have hz8 : w7.heap.size < w8.heap.size := by rw [hw8]; simp
      have HVX_8 : Hid (w8.heap[w7.heap.size]? = some (.cells #[.int .i64 s, .slice p7 l.length c7] 26)) := hid (by rw [hw8]; exact heap_alloc_new _ _)
      have HW8 := hid hw8
      have HB0_8 := hid (HB0_7.out.trans (hb8.mono HB0_7.out.size))
      have HB3_8 := hid (HB3_7.out.trans (hb8.mono HB3_7.out.size))
      have HB4_8 := hid (HB4_7.out.trans (hb8.mono HB4_7.out.size))
      have HB5_8 := hid (HB5_7.out.trans (hb8.mono HB5_7.out.size))
      have HB7_8 := hid (HB7_7.out.trans (hb8.mono HB7_7.out.size))
      have HOt1_8 := hid (own_below HOt1_7.out hb8)
      have HOt2_8 := hid (own_below HOt2_7.out hb8)
      have HOw0_8 := hid (own_below HOw0_7.out hb8)
      have HOx0_8 := hid (own_below HOx0_7.out hb8)
      have HVA_8 := hid ((hb8.block _ (by omega)).trans HVA_7.out)
      have HVW_8 := hid ((hb8.block _ (by omega)).trans HVW_7.out)
      clear HB0_7 HB3_7 HB4_7 HB5_7 HB7_7 HOt1_7 HOt2_7 HOw0_7 HOx0_7
      clear hw8 hb8
      go_wp2_with (go_at_call 25; rw [← HW8.out]; refine (to_ints vs hvl _ _ (HFb.out.on HB0_8.out)).mono ?_; rintro e w9 ⟨rfl, hb9, ho9⟩; refine Hid.out ?_)
      refine hid ?_
      clear HVA_7 HVW_7
      have hz9 := hb9.size
      have HB0_9 := hid (HB0_8.out.trans (hb9.mono HB0_8.out.size))
      have HB3_9 := hid (HB3_8.out.trans (hb9.mono HB3_8.out.size))
      have HB4_9 := hid (HB4_8.out.trans (hb9.mono HB4_8.out.size))
      have HB5_9 := hid (HB5_8.out.trans (hb9.mono HB5_8.out.size))
      have HB7_9 := hid (HB7_8.out.trans (hb9.mono HB7_8.out.size))
      have HOt1_9 := hid (own_below HOt1_8.out hb9)
      have HOt2_9 := hid (own_below HOt2_8.out hb9)
      have HOw0_9 := hid (own_below HOw0_8.out hb9)
      have HOx0_9 := hid (own_below HOx0_8.out hb9)
      have HVA_9 := hid ((hb9.block _ (by omega)).trans HVA_8.out)
      have HVW_9 := hid ((hb9.block _ (by omega)).trans HVW_8.out)
      have HVX_9 := hid ((hb9.block _ (by omega)).trans HVX_8.out)
      clear HB0_8 HB3_8 HB4_8 HB5_8 HB7_8 HOt1_8 HOt2_8 HOw0_8 HOx0_8 HVA_8 HVW_8 HVX_8
      have HB9_9 : Hid (Below w9.heap.size w9 w9) := hid (Below.refl _ _)
      have HOx1_9 := hid ho9
      have HLx1 := hid (ho9.lt)
      clear hb9 ho9
      have k_X_0 := (cell_of_row _ _ 0 _ _ _ HVX_9.out).trans rfl
      have k_X_1 := (cell_of_row _ _ 1 _ _ _ HVX_9.out).trans rfl
      go_wp2_with (go_at_call 10; refine (CI.out _ _ _ (row_in_own HOx0_9.out) (row_in_own HOx1_9.out)).mono ?_; rintro e w10 ⟨sv10, rfl, hb10, ho10⟩; refine Hid.out ?_)
      refine hid ?_
      clear k_X_0 k_X_1
      have hz10 := hb10.size
      have HB0_10 := hid (HB0_9.out.trans (hb10.mono HB0_9.out.size))
      have HB3_10 := hid (HB3_9.out.trans (hb10.mono HB3_9.out.size))
      have HB4_10 := hid (HB4_9.out.trans (hb10.mono HB4_9.out.size))
      have HB5_10 := hid (HB5_9.out.trans (hb10.mono HB5_9.out.size))
      have HB7_10 := hid (HB7_9.out.trans (hb10.mono HB7_9.out.size))
      have HB9_10 := hid (HB9_9.out.trans (hb10.mono HB9_9.out.size))
      have HOt1_10 := hid (own_below HOt1_9.out hb10)
      have HOt2_10 := hid (own_below HOt2_9.out hb10)
      have HOw0_10 := hid (own_below HOw0_9.out hb10)
      have HOx0_10 := hid (own_below HOx0_9.out hb10)
      have HOx1_10 := hid (own_below HOx1_9.out hb10)
      have HVA_10 := hid ((hb10.block _ (by omega)).trans HVA_9.out)
      have HVW_10 := hid ((hb10.block _ (by omega)).trans HVW_9.out)
      have HVX_10 := hid ((hb10.block _ (by omega)).trans HVX_9.out)
      clear HB0_9 HB3_9 HB4_9 HB5_9 HB7_9 HB9_9 HOt1_9 HOt2_9 HOw0_9 HOx0_9 HOx1_9 HVA_9 HVW_9 HVX_9
      have HB10_10 : Hid (Below w10.heap.size w10 w10) := hid (Below.refl _ _)
      have HOg0_10 := hid ho10
      have HLg0 := hid (ho10.lt)
      obtain ⟨p10, c10, rfl, _, _⟩ := row_in_own HOg0_10.out
      clear hb10 ho10
      obtain ⟨w11, hw11⟩ : ∃ W, W = w10.alloc (.cells #[.int .i64 rs, .slice p10 L.length c10] 26) := ⟨_, rfl⟩
      have hb11 : Below w10.heap.size w10 w11 := by rw [hw11]; exact (Below.refl _ _).alloc (Nat.le_refl _) _
      have hz11 : w10.heap.size < w11.heap.size := by rw [hw11]; simp
      have HVG_11 : Hid (w11.heap[w10.heap.size]? = some (.cells #[.int .i64 rs, .slice p10 L.length c10] 26)) := hid (by rw [hw11]; exact heap_alloc_new _ _)
      have HW11 := hid hw11
      have HB0_11 := hid (HB0_10.out.trans (hb11.mono HB0_10.out.size))
      have HB3_11 := hid (HB3_10.out.trans (hb11.mono HB3_10.out.size))
      have HB4_11 := hid (HB4_10.out.trans (hb11.mono HB4_10.out.size))
      have HB5_11 := hid (HB5_10.out.trans (hb11.mono HB5_10.out.size))
      have HB7_11 := hid (HB7_10.out.trans (hb11.mono HB7_10.out.size))
      have HB9_11 := hid (HB9_10.out.trans (hb11.mono HB9_10.out.size))
      have HB10_11 := hid (HB10_10.out.trans (hb11.mono HB10_10.out.size))
      have HOt1_11 := hid (own_below HOt1_10.out hb11)
      have HOt2_11 := hid (own_below HOt2_10.out hb11)
      have HOw0_11 := hid (own_below HOw0_10.out hb11)
      have HOx0_11 := hid (own_below HOx0_10.out hb11)
      have HOx1_11 := hid (own_below HOx1_10.out hb11)
      have HOg0_11 := hid (own_below HOg0_10.out hb11)
      have HVA_11 := hid ((hb11.block _ (by omega)).trans HVA_10.out)
      have HVW_11 := hid ((hb11.block _ (by omega)).trans HVW_10.out)
      have HVX_11 := hid ((hb11.block _ (by omega)).trans HVX_10.out)
      clear HB0_10 HB3_10 HB4_10 HB5_10 HB7_10 HB9_10 HB10_10 HOt1_10 HOt2_10 HOw0_10 HOx0_10 HOx1_10 HOg0_10
      clear hw11 hb11
      have kz_W : w5.heap.size < w10.heap.size := by omega
      have k_W_0 := (cell_of_row _ _ 0 _ _ _ HVW_10.out).trans rfl
      have k_W_1 := (cell_of_row _ _ 1 _ _ _ HVW_10.out).trans rfl
      go_wp2_with (go_at_call 20; rw [← HW11.out]; refine (eq_nv rs L (by omega) _ _ _ (row_in_own HOg0_11.out) (row_in_own HOw0_11.out)).mono ?_; rintro e w12 ⟨rfl, hb12⟩; refine Hid.out ?_)
      refine hid ?_
      clear kz_W k_W_0 k_W_1
      clear HVA_10 HVW_10 HVX_10
      have hz12 := hb12.size
      have HB0_12 := hid (HB0_11.out.trans (hb12.mono HB0_11.out.size))
      have HB3_12 := hid (HB3_11.out.trans (hb12.mono HB3_11.out.size))
      have HB4_12 := hid (HB4_11.out.trans (hb12.mono HB4_11.out.size))
      have HB5_12 := hid (HB5_11.out.trans (hb12.mono HB5_11.out.size))
      have HB7_12 := hid (HB7_11.out.trans (hb12.mono HB7_11.out.size))
      have HB9_12 := hid (HB9_11.out.trans (hb12.mono HB9_11.out.size))
      have HB10_12 := hid (HB10_11.out.trans (hb12.mono HB10_11.out.size))
      have HOw0_12 := hid (own_below HOw0_11.out hb12)
      have HOx0_12 := hid (own_below HOx0_11.out hb12)
      have HOx1_12 := hid (own_below HOx1_11.out hb12)
      have HOg0_12 := hid (own_below HOg0_11.out hb12)
      have HVA_12 := hid ((hb12.block _ (by omega)).trans HVA_11.out)
      have HVW_12 := hid ((hb12.block _ (by omega)).trans HVW_11.out)
      have HVX_12 := hid ((hb12.block _ (by omega)).trans HVX_11.out)
      have HVG_12 := hid ((hb12.block _ (by omega)).trans HVG_11.out)
      clear HB0_11 HB3_11 HB4_11 HB5_11 HB7_11 HB9_11 HB10_11 HOw0_11 HOx0_11 HOx1_11 HOg0_11 HVA_11 HVW_11 HVX_11 HVG_11
      clear hb12
      have CT := hid (fun W (h : Below w12.heap.size w12 W) => TA.out _ W (HFa.out.on (HB0_12.out.trans (h.mono HB0_12.out.size))))
      have CE := hid (fun sv W (h : Below w12.heap.size w12 W) (hr : RowIn W sv l) => eq_nv s l (by omega) _ sv W ((row_in_own HOx0_12.out).on h) hr)
      have k_X_0 : ∀ W : World, Below w12.heap.size w12 W → W.cell? ⟨_, 0, none⟩ = some (.int .i64 s) := fun W hW => (cell_of_row _ _ 0 _ _ _ ((hW.block _ (by omega)).trans HVX_12.out)).trans rfl
      have k_X_1 : ∀ W : World, Below w12.heap.size w12 W → W.cell? ⟨_, 1, none⟩ = some (.slice p7 l.length c7) := fun W hW => (cell_of_row _ _ 1 _ _ _ ((hW.block _ (by omega)).trans HVX_12.out)).trans rfl
      have k_A_0 : ∀ W : World, Below w12.heap.size w12 W → W.cell? ⟨_, 0, none⟩ = some (.int .i64 s) := fun W hW => (cell_of_row _ _ 0 _ _ _ ((hW.block _ (by omega)).trans HVA_12.out)).trans rfl
      have k_A_1 : ∀ W : World, Below w12.heap.size w12 W → W.cell? ⟨_, 1, none⟩ = some (.slice p0 l.length c0) := fun W hW => (cell_of_row _ _ 1 _ _ _ ((hW.block _ (by omega)).trans HVA_12.out)).trans rfl
      go_wp2
      go_region_held3 (fun w' => Below w12.heap.size w12 w') (first | with_reducible assumption | exact Below.drew (Below.refl _ _) | exact below_step (by assumption) (by simp) (by assumption)) ((first | (go_at_call 17; refine (CT.out _ (by assumption)).mono ?_; rintro e x1 ⟨sv1, rfl, hy1, hr1⟩) | (go_at_call 20; refine (CE.out _ _ (by assumption) (row_in_own hr1)).mono ?_; rintro e x2 ⟨rfl, hy2⟩)))
      rename_i hS
      have hb13 := hS
      clear k_X_0 k_X_1 k_A_0 k_A_1
      generalize x2 = w13 at *
      clear hS
      have hz13 := hb13.size
      have HB0_13 := hid (HB0_12.out.trans (hb13.mono HB0_12.out.size))
      have HB3_13 := hid (HB3_12.out.trans (hb13.mono HB3_12.out.size))
      have HB4_13 := hid (HB4_12.out.trans (hb13.mono HB4_12.out.size))
      have HB5_13 := hid (HB5_12.out.trans (hb13.mono HB5_12.out.size))
      have HB7_13 := hid (HB7_12.out.trans (hb13.mono HB7_12.out.size))
      have HB9_13 := hid (HB9_12.out.trans (hb13.mono HB9_12.out.size))
      have HB10_13 := hid (HB10_12.out.trans (hb13.mono HB10_12.out.size))
      have HOw0_13 := hid (own_below HOw0_12.out hb13)
      have HOx0_13 := hid (own_below HOx0_12.out hb13)
      have HOx1_13 := hid (own_below HOx1_12.out hb13)
      have HOg0_13 := hid (own_below HOg0_12.out hb13)
      have HVA_13 := hid ((hb13.block _ (by omega)).trans HVA_12.out)
      have HVW_13 := hid ((hb13.block _ (by omega)).trans HVW_12.out)
      have HVX_13 := hid ((hb13.block _ (by omega)).trans HVX_12.out)
      have HVG_13 := hid ((hb13.block _ (by omega)).trans HVG_12.out)
      clear HB0_12 HB3_12 HB4_12 HB5_12 HB7_12 HB9_12 HB10_12 HOw0_12 HOx0_12 HOx1_12 HOg0_12 HVA_12 HVW_12 HVX_12 HVG_12
      clear hb13
      clear hy1 hr1 hy2
      go_wp2_with (go_at_call 25; refine (to_ints vs hvl _ _ (HFb.out.on HB0_13.out)).mono ?_; rintro e w14 ⟨rfl, hb14, ho14⟩; refine Hid.out ?_)
      refine hid ?_
      have hz14 := hb14.size
      have HB0_14 := hid (HB0_13.out.trans (hb14.mono HB0_13.out.size))
      have HB3_14 := hid (HB3_13.out.trans (hb14.mono HB3_13.out.size))
      have HB4_14 := hid (HB4_13.out.trans (hb14.mono HB4_13.out.size))
      have HB5_14 := hid (HB5_13.out.trans (hb14.mono HB5_13.out.size))
      have HB7_14 := hid (HB7_13.out.trans (hb14.mono HB7_13.out.size))
      have HB9_14 := hid (HB9_13.out.trans (hb14.mono HB9_13.out.size))
      have HB10_14 := hid (HB10_13.out.trans (hb14.mono HB10_13.out.size))
      have HOw0_14 := hid (own_below HOw0_13.out hb14)
      have HOx0_14 := hid (own_below HOx0_13.out hb14)
      have HOx1_14 := hid (own_below HOx1_13.out hb14)
      have HOg0_14 := hid (own_below HOg0_13.out hb14)
      have HVA_14 := hid ((hb14.block _ (by omega)).trans HVA_13.out)
      have HVW_14 := hid ((hb14.block _ (by omega)).trans HVW_13.out)
      have HVX_14 := hid ((hb14.block _ (by omega)).trans HVX_13.out)
      have HVG_14 := hid ((hb14.block _ (by omega)).trans HVG_13.out)
      clear HB0_13 HB3_13 HB4_13 HB5_13 HB7_13 HB9_13 HB10_13 HOw0_13 HOx0_13 HOx1_13 HOg0_13 HVA_13 HVW_13 HVX_13 HVG_13
      have HB14_14 : Hid (Below w14.heap.size w14 w14) := hid (Below.refl _ _)
      have HFtw := hid (row_in_own ho14)
      clear ho14
      clear hb14
      go_wp2_with (go_at_call 26; refine (eq_ints vs (by omega) _ _ _ (row_in_own HOx1_14.out) (HFtw.out.on HB14_14.out)).mono ?_; rintro e w15 ⟨rfl, hb15⟩; refine Hid.out ?_)
      refine hid ?_
      have hz15 := hb15.size
      have HB0_15 := hid (HB0_14.out.trans (hb15.mono HB0_14.out.size))
      have HB3_15 := hid (HB3_14.out.trans (hb15.mono HB3_14.out.size))
      have HB4_15 := hid (HB4_14.out.trans (hb15.mono HB4_14.out.size))
      have HB5_15 := hid (HB5_14.out.trans (hb15.mono HB5_14.out.size))
      have HB7_15 := hid (HB7_14.out.trans (hb15.mono HB7_14.out.size))
      have HB9_15 := hid (HB9_14.out.trans (hb15.mono HB9_14.out.size))
      have HB10_15 := hid (HB10_14.out.trans (hb15.mono HB10_14.out.size))
      have HB14_15 := hid (HB14_14.out.trans (hb15.mono HB14_14.out.size))
      have HOw0_15 := hid (own_below HOw0_14.out hb15)
      have HOx0_15 := hid (own_below HOx0_14.out hb15)
      have HOx1_15 := hid (own_below HOx1_14.out hb15)
      have HOg0_15 := hid (own_below HOg0_14.out hb15)
      have HVA_15 := hid ((hb15.block _ (by omega)).trans HVA_14.out)
      have HVW_15 := hid ((hb15.block _ (by omega)).trans HVW_14.out)
      have HVX_15 := hid ((hb15.block _ (by omega)).trans HVX_14.out)
      have HVG_15 := hid ((hb15.block _ (by omega)).trans HVG_14.out)
      clear HB0_14 HB3_14 HB4_14 HB5_14 HB7_14 HB9_14 HB10_14 HB14_14 HOw0_14 HOx0_14 HOx1_14 HOg0_14 HVA_14 HVW_14 HVX_14 HVG_14
      clear hb15
      have k_X_0 := (cell_of_row _ _ 0 _ _ _ HVX_15.out).trans rfl
      have k_X_1 := (cell_of_row _ _ 1 _ _ _ HVX_15.out).trans rfl
      go_wp2_with (go_at_call 22; refine (mark_nv s l 1 (by omega) _ _ _ HOx0_15.out).mono ?_; rintro e w16 ⟨rfl, hg16, ho16⟩; refine Hid.out ?_)
      refine hid ?_
      clear k_X_0 k_X_1
      have hz16 := hg16.size
      have HB0_16 := hid (HB0_15.out.trans (grown_to hg16 HB0_15.out.size (fun k hk => by have := (HLx0.out k hk).1; omega)))
      have HB3_16 := hid (HB3_15.out.trans (grown_to hg16 HB3_15.out.size (fun k hk => by have := (HLx0.out k hk).1; omega)))
      have HB4_16 := hid (HB4_15.out.trans (grown_to hg16 HB4_15.out.size (fun k hk => by have := (HLx0.out k hk).1; omega)))
      have HB5_16 := hid (HB5_15.out.trans (grown_to hg16 HB5_15.out.size (fun k hk => by have := (HLx0.out k hk).1; omega)))
      have HOw0_16 := hid (HOw0_15.out.kept hg16 (kept_apart HLw0.out HLx0.out (by omega)))
      have HOx1_16 := hid (HOx1_15.out.kept hg16 (kept_apart HLx1.out HLx0.out (by omega)))
      have HOg0_16 := hid (HOg0_15.out.kept hg16 (kept_apart HLg0.out HLx0.out (by omega)))
      have HOx0_16 := hid ho16
      have HVA_16 := hid ((hg16.block _ (by omega) (fun e => by have := HLx0.out _ e.symm; omega)).trans HVA_15.out)
      have HVW_16 := hid ((hg16.block _ (by omega) (fun e => by have := HLx0.out _ e.symm; omega)).trans HVW_15.out)
      have HVX_16 := hid ((hg16.block _ (by omega) (fun e => by have := HLx0.out _ e.symm; omega)).trans HVX_15.out)
      have HVG_16 := hid ((hg16.block _ (by omega) (fun e => by have := HLx0.out _ e.symm; omega)).trans HVG_15.out)
      clear HB0_15 HB3_15 HB4_15 HB5_15 HB7_15 HB9_15 HB10_15 HB14_15 HOw0_15 HOx0_15 HOx1_15 HOg0_15 HVA_15 HVW_15 HVX_15 HVG_15
      clear hg16 ho16
      go_wp2_with (go_at_call 27; refine (mark_ints vs (1 + l.length) (by omega) _ _ _ HOx1_16.out).mono ?_; rintro e w17 ⟨rfl, hg17, ho17⟩; refine Hid.out ?_)
      refine hid ?_
      have hz17 := hg17.size
      have HB0_17 := hid (HB0_16.out.trans (grown_to hg17 HB0_16.out.size (fun k hk => by have := (HLx1.out k hk).1; omega)))
      have HB3_17 := hid (HB3_16.out.trans (grown_to hg17 HB3_16.out.size (fun k hk => by have := (HLx1.out k hk).1; omega)))
      have HB4_17 := hid (HB4_16.out.trans (grown_to hg17 HB4_16.out.size (fun k hk => by have := (HLx1.out k hk).1; omega)))
      have HB5_17 := hid (HB5_16.out.trans (grown_to hg17 HB5_16.out.size (fun k hk => by have := (HLx1.out k hk).1; omega)))
      have HOw0_17 := hid (HOw0_16.out.kept hg17 (kept_apart HLw0.out HLx1.out (by omega)))
      have HOg0_17 := hid (HOg0_16.out.kept hg17 (kept_apart HLg0.out HLx1.out (by omega)))
      have HOx1_17 := hid ho17
      have HVA_17 := hid ((hg17.block _ (by omega) (fun e => by have := HLx1.out _ e.symm; omega)).trans HVA_16.out)
      have HVW_17 := hid ((hg17.block _ (by omega) (fun e => by have := HLx1.out _ e.symm; omega)).trans HVW_16.out)
      have HVX_17 := hid ((hg17.block _ (by omega) (fun e => by have := HLx1.out _ e.symm; omega)).trans HVX_16.out)
      have HVG_17 := hid ((hg17.block _ (by omega) (fun e => by have := HLx1.out _ e.symm; omega)).trans HVG_16.out)
      clear HB0_16 HB3_16 HB4_16 HB5_16 HOw0_16 HOx1_16 HOg0_16 HVA_16 HVW_16 HVX_16 HVG_16
      clear hg17 ho17
      have k_G_0 := (cell_of_row _ _ 0 _ _ _ HVG_17.out).trans rfl
      have k_G_1 := (cell_of_row _ _ 1 _ _ _ HVG_17.out).trans rfl
      have k_W_0 := (cell_of_row _ _ 0 _ _ _ HVW_17.out).trans rfl
      have k_W_1 := (cell_of_row _ _ 1 _ _ _ HVW_17.out).trans rfl
      go_wp2_with (go_at_call 20; refine (eq_nv rs L (by omega) _ _ _ (row_in_own HOg0_17.out) (row_in_own HOw0_17.out)).mono ?_; rintro e w18 ⟨rfl, hb18⟩; refine Hid.out ?_)
      refine hid ?_
      clear k_G_0 k_G_1 k_W_0 k_W_1
      have hz18 := hb18.size
      have HB0_18 := hid (HB0_17.out.trans (hb18.mono HB0_17.out.size))
      have HB3_18 := hid (HB3_17.out.trans (hb18.mono HB3_17.out.size))
      have HB4_18 := hid (HB4_17.out.trans (hb18.mono HB4_17.out.size))
      have HB5_18 := hid (HB5_17.out.trans (hb18.mono HB5_17.out.size))
      have HOw0_18 := hid (own_below HOw0_17.out hb18)
      have HOg0_18 := hid (own_below HOg0_17.out hb18)
      have HVA_18 := hid ((hb18.block _ (by omega)).trans HVA_17.out)
      have HVW_18 := hid ((hb18.block _ (by omega)).trans HVW_17.out)
      have HVX_18 := hid ((hb18.block _ (by omega)).trans HVX_17.out)
      have HVG_18 := hid ((hb18.block _ (by omega)).trans HVG_17.out)
      clear HB0_17 HB3_17 HB4_17 HB5_17 HOw0_17 HOg0_17 HVA_17 HVW_17 HVX_17 HVG_17
      clear hb18
      have k_G_0 := (cell_of_row _ _ 0 _ _ _ HVG_18.out).trans rfl
      have k_G_1 := (cell_of_row _ _ 1 _ _ _ HVG_18.out).trans rfl
      go_wp2_with (go_at_call 22; refine (mark_nv rs L 1 (by omega) _ _ _ HOg0_18.out).mono ?_; rintro e w19 ⟨rfl, hg19, ho19⟩; refine Hid.out ?_)
      refine hid ?_
      clear k_G_0 k_G_1
      have hz19 := hg19.size
      have HB0_19 := hid (HB0_18.out.trans (grown_to hg19 HB0_18.out.size (fun k hk => by have := (HLg0.out k hk).1; omega)))
      have HB3_19 := hid (HB3_18.out.trans (grown_to hg19 HB3_18.out.size (fun k hk => by have := (HLg0.out k hk).1; omega)))
      have HB4_19 := hid (HB4_18.out.trans (grown_to hg19 HB4_18.out.size (fun k hk => by have := (HLg0.out k hk).1; omega)))
      have HB5_19 := hid (HB5_18.out.trans (grown_to hg19 HB5_18.out.size (fun k hk => by have := (HLg0.out k hk).1; omega)))
      have HOw0_19 := hid (HOw0_18.out.kept hg19 (kept_apart HLw0.out HLg0.out (by omega)))
      have HOg0_19 := hid ho19
      have HVA_19 := hid ((hg19.block _ (by omega) (fun e => by have := HLg0.out _ e.symm; omega)).trans HVA_18.out)
      have HVW_19 := hid ((hg19.block _ (by omega) (fun e => by have := HLg0.out _ e.symm; omega)).trans HVW_18.out)
      have HVX_19 := hid ((hg19.block _ (by omega) (fun e => by have := HLg0.out _ e.symm; omega)).trans HVX_18.out)
      have HVG_19 := hid ((hg19.block _ (by omega) (fun e => by have := HLg0.out _ e.symm; omega)).trans HVG_18.out)
      clear HB0_18 HB3_18 HB4_18 HB5_18 HOw0_18 HOg0_18 HVA_18 HVW_18 HVX_18 HVG_18
      clear hg19 ho19
      have k_G_0 := (cell_of_row _ _ 0 _ _ _ HVG_19.out).trans rfl
      have k_G_1 := (cell_of_row _ _ 1 _ _ _ HVG_19.out).trans rfl
      go_wp2_with (go_at_call 24; refine (held_nv rs 1 L.length (by omega) _ _ (row_in_own2 (imarks_len 1 L.length).symm HOg0_19.out)).mono ?_; rintro e w20 ⟨rfl, hb20⟩; refine Hid.out ?_)
      refine hid ?_
      clear k_G_0 k_G_1
      have hz20 := hb20.size
      have HB0_20 := hid (HB0_19.out.trans (hb20.mono HB0_19.out.size))
      have HB3_20 := hid (HB3_19.out.trans (hb20.mono HB3_19.out.size))
      have HB4_20 := hid (HB4_19.out.trans (hb20.mono HB4_19.out.size))
      have HB5_20 := hid (HB5_19.out.trans (hb20.mono HB5_19.out.size))
      have HOw0_20 := hid (own_below HOw0_19.out hb20)
      have HOg0_20 := hid (own_below HOg0_19.out hb20)
      have HVA_20 := hid ((hb20.block _ (by omega)).trans HVA_19.out)
      have HVW_20 := hid ((hb20.block _ (by omega)).trans HVW_19.out)
      have HVX_20 := hid ((hb20.block _ (by omega)).trans HVX_19.out)
      have HVG_20 := hid ((hb20.block _ (by omega)).trans HVG_19.out)
      clear HB0_19 HB3_19 HB4_19 HB5_19 HOw0_19 HOg0_19 HVA_19 HVW_19 HVX_19 HVG_19
      clear hb20
      have k_A_0 := (cell_of_row _ _ 0 _ _ _ HVA_20.out).trans rfl
      have k_A_1 := (cell_of_row _ _ 1 _ _ _ HVA_20.out).trans rfl
      go_wp2_with (go_at_call 17; refine (TA.out _ _ (HFa.out.on HB0_20.out)).mono ?_; rintro e w21 ⟨sv21, rfl, hb21, ho21⟩; refine Hid.out ?_)
      refine hid ?_
      clear k_A_0 k_A_1
      have hz21 := hb21.size
      have HB0_21 := hid (HB0_20.out.trans (hb21.mono HB0_20.out.size))
      have HB3_21 := hid (HB3_20.out.trans (hb21.mono HB3_20.out.size))
      have HB4_21 := hid (HB4_20.out.trans (hb21.mono HB4_20.out.size))
      have HB5_21 := hid (HB5_20.out.trans (hb21.mono HB5_20.out.size))
      have HOw0_21 := hid (own_below HOw0_20.out hb21)
      have HOg0_21 := hid (own_below HOg0_20.out hb21)
      have HVA_21 := hid ((hb21.block _ (by omega)).trans HVA_20.out)
      have HVW_21 := hid ((hb21.block _ (by omega)).trans HVW_20.out)
      have HVX_21 := hid ((hb21.block _ (by omega)).trans HVX_20.out)
      have HVG_21 := hid ((hb21.block _ (by omega)).trans HVG_20.out)
      clear HB0_20 HB3_20 HB4_20 HB5_20 HOw0_20 HOg0_20 HVA_20 HVW_20 HVX_20 HVG_20
      have HB21_21 : Hid (Below w21.heap.size w21 w21) := hid (Below.refl _ _)
      have HOt1_21 := hid ho21
      have HLt1 := hid (ho21.lt)
      obtain ⟨p21, c21, rfl, _, _⟩ := row_in_own HOt1_21.out
      clear hb21 ho21
      go_wp2_with (go_at_call 25; refine (to_ints vs hvl _ _ (HFb.out.on HB0_21.out)).mono ?_; rintro e w22 ⟨rfl, hb22, ho22⟩; refine Hid.out ?_)
      refine hid ?_
      have hz22 := hb22.size
      have HB0_22 := hid (HB0_21.out.trans (hb22.mono HB0_21.out.size))
      have HB3_22 := hid (HB3_21.out.trans (hb22.mono HB3_21.out.size))
      have HB4_22 := hid (HB4_21.out.trans (hb22.mono HB4_21.out.size))
      have HB5_22 := hid (HB5_21.out.trans (hb22.mono HB5_21.out.size))
      have HB21_22 := hid (HB21_21.out.trans (hb22.mono HB21_21.out.size))
      have HOw0_22 := hid (own_below HOw0_21.out hb22)
      have HOg0_22 := hid (own_below HOg0_21.out hb22)
      have HOt1_22 := hid (own_below HOt1_21.out hb22)
      have HVA_22 := hid ((hb22.block _ (by omega)).trans HVA_21.out)
      have HVW_22 := hid ((hb22.block _ (by omega)).trans HVW_21.out)
      have HVX_22 := hid ((hb22.block _ (by omega)).trans HVX_21.out)
      have HVG_22 := hid ((hb22.block _ (by omega)).trans HVG_21.out)
      clear HB0_21 HB3_21 HB4_21 HB5_21 HB21_21 HOw0_21 HOg0_21 HOt1_21 HVA_21 HVW_21 HVX_21 HVG_21
      have HB22_22 : Hid (Below w22.heap.size w22 w22) := hid (Below.refl _ _)
      have HOt2_22 := hid ho22
      have HLt2 := hid (ho22.lt)
      clear hb22 ho22
      go_wp2_with (go_at_call 10; refine (CI.out _ _ _ (row_in_own HOt1_22.out) (row_in_own HOt2_22.out)).mono ?_; rintro e w23 ⟨sv23, rfl, hb23, ho23⟩; refine Hid.out ?_)
      refine hid ?_
      have hz23 := hb23.size
      have HB0_23 := hid (HB0_22.out.trans (hb23.mono HB0_22.out.size))
      have HB3_23 := hid (HB3_22.out.trans (hb23.mono HB3_22.out.size))
      have HB4_23 := hid (HB4_22.out.trans (hb23.mono HB4_22.out.size))
      have HB5_23 := hid (HB5_22.out.trans (hb23.mono HB5_22.out.size))
      have HB21_23 := hid (HB21_22.out.trans (hb23.mono HB21_22.out.size))
      have HB22_23 := hid (HB22_22.out.trans (hb23.mono HB22_22.out.size))
      have HOw0_23 := hid (own_below HOw0_22.out hb23)
      have HOg0_23 := hid (own_below HOg0_22.out hb23)
      have HOt1_23 := hid (own_below HOt1_22.out hb23)
      have HOt2_23 := hid (own_below HOt2_22.out hb23)
      have HVA_23 := hid ((hb23.block _ (by omega)).trans HVA_22.out)
      have HVW_23 := hid ((hb23.block _ (by omega)).trans HVW_22.out)
      have HVX_23 := hid ((hb23.block _ (by omega)).trans HVX_22.out)
      have HVG_23 := hid ((hb23.block _ (by omega)).trans HVG_22.out)
      clear HB0_22 HB3_22 HB4_22 HB5_22 HB21_22 HB22_22 HOw0_22 HOg0_22 HOt1_22 HOt2_22 HVA_22 HVW_22 HVX_22 HVG_22
      have HB23_23 : Hid (Below w23.heap.size w23 w23) := hid (Below.refl _ _)
      have HOh0_23 := hid ho23
      have HLh0 := hid (ho23.lt)
      obtain ⟨p23, c23, rfl, _, _⟩ := row_in_own HOh0_23.out
      clear hb23 ho23
      obtain ⟨w24, hw24⟩ : ∃ W, W = w23.alloc (.cells #[.int .i64 rs, .slice p23 L.length c23] 26) := ⟨_, rfl⟩
      have hb24 : Below w23.heap.size w23 w24 := by rw [hw24]; exact (Below.refl _ _).alloc (Nat.le_refl _) _
      have hz24 : w23.heap.size < w24.heap.size := by rw [hw24]; simp
      have HVH_24 : Hid (w24.heap[w23.heap.size]? = some (.cells #[.int .i64 rs, .slice p23 L.length c23] 26)) := hid (by rw [hw24]; exact heap_alloc_new _ _)
      have HW24 := hid hw24
      have HB0_24 := hid (HB0_23.out.trans (hb24.mono HB0_23.out.size))
      have HB3_24 := hid (HB3_23.out.trans (hb24.mono HB3_23.out.size))
      have HB4_24 := hid (HB4_23.out.trans (hb24.mono HB4_23.out.size))
      have HB5_24 := hid (HB5_23.out.trans (hb24.mono HB5_23.out.size))
      have HB21_24 := hid (HB21_23.out.trans (hb24.mono HB21_23.out.size))
      have HB22_24 := hid (HB22_23.out.trans (hb24.mono HB22_23.out.size))
      have HB23_24 := hid (HB23_23.out.trans (hb24.mono HB23_23.out.size))
      have HOw0_24 := hid (own_below HOw0_23.out hb24)
      have HOg0_24 := hid (own_below HOg0_23.out hb24)
      have HOt1_24 := hid (own_below HOt1_23.out hb24)
      have HOt2_24 := hid (own_below HOt2_23.out hb24)
      have HOh0_24 := hid (own_below HOh0_23.out hb24)
      have HVA_24 := hid ((hb24.block _ (by omega)).trans HVA_23.out)
      have HVW_24 := hid ((hb24.block _ (by omega)).trans HVW_23.out)
      have HVX_24 := hid ((hb24.block _ (by omega)).trans HVX_23.out)
      have HVG_24 := hid ((hb24.block _ (by omega)).trans HVG_23.out)
      clear HB0_23 HB3_23 HB4_23 HB5_23 HB21_23 HB22_23 HB23_23 HOw0_23 HOg0_23 HOt1_23 HOt2_23 HOh0_23
      clear hw24 hb24
      have kz_W : w5.heap.size < w23.heap.size := by omega
      have k_W_0 := (cell_of_row _ _ 0 _ _ _ HVW_23.out).trans rfl
      have k_W_1 := (cell_of_row _ _ 1 _ _ _ HVW_23.out).trans rfl
      go_wp2_with (go_at_call 20; rw [← HW24.out]; refine (eq_nv rs L (by omega) _ _ _ (row_in_own HOh0_24.out) (row_in_own HOw0_24.out)).mono ?_; rintro e w25 ⟨rfl, hb25⟩; refine Hid.out ?_)
      refine hid ?_
      clear kz_W k_W_0 k_W_1
      clear HVA_23 HVW_23 HVX_23 HVG_23
      have hz25 := hb25.size
      have HB0_25 := hid (HB0_24.out.trans (hb25.mono HB0_24.out.size))
      have HB3_25 := hid (HB3_24.out.trans (hb25.mono HB3_24.out.size))
      have HB4_25 := hid (HB4_24.out.trans (hb25.mono HB4_24.out.size))
      have HB5_25 := hid (HB5_24.out.trans (hb25.mono HB5_24.out.size))
      have HB21_25 := hid (HB21_24.out.trans (hb25.mono HB21_24.out.size))
      have HB22_25 := hid (HB22_24.out.trans (hb25.mono HB22_24.out.size))
      have HB23_25 := hid (HB23_24.out.trans (hb25.mono HB23_24.out.size))
      have HOw0_25 := hid (own_below HOw0_24.out hb25)
      have HOg0_25 := hid (own_below HOg0_24.out hb25)
      have HOt1_25 := hid (own_below HOt1_24.out hb25)
      have HOt2_25 := hid (own_below HOt2_24.out hb25)
      have HOh0_25 := hid (own_below HOh0_24.out hb25)
      have HVA_25 := hid ((hb25.block _ (by omega)).trans HVA_24.out)
      have HVW_25 := hid ((hb25.block _ (by omega)).trans HVW_24.out)
      have HVX_25 := hid ((hb25.block _ (by omega)).trans HVX_24.out)
      have HVG_25 := hid ((hb25.block _ (by omega)).trans HVG_24.out)
      have HVH_25 := hid ((hb25.block _ (by omega)).trans HVH_24.out)
      clear HB0_24 HB3_24 HB4_24 HB5_24 HB21_24 HB22_24 HB23_24 HOw0_24 HOg0_24 HOt1_24 HOt2_24 HOh0_24 HVA_24 HVW_24 HVX_24 HVG_24 HVH_24
      clear hb25
      have k_G_0 := (cell_of_row _ _ 0 _ _ _ HVG_25.out).trans rfl
      have k_G_1 := (cell_of_row _ _ 1 _ _ _ HVG_25.out).trans rfl
      go_wp2_with (go_at_call 24; refine (held_nv rs 1 L.length (by omega) _ _ (row_in_own2 (imarks_len 1 L.length).symm HOg0_25.out)).mono ?_; rintro e w26 ⟨rfl, hb26⟩; refine Hid.out ?_)
      refine hid ?_
      clear k_G_0 k_G_1
      have hz26 := hb26.size
      have HB0_26 := hid (HB0_25.out.trans (hb26.mono HB0_25.out.size))
      have HB3_26 := hid (HB3_25.out.trans (hb26.mono HB3_25.out.size))
      have HB4_26 := hid (HB4_25.out.trans (hb26.mono HB4_25.out.size))
      have HB5_26 := hid (HB5_25.out.trans (hb26.mono HB5_25.out.size))
      have HB21_26 := hid (HB21_25.out.trans (hb26.mono HB21_25.out.size))
      have HB22_26 := hid (HB22_25.out.trans (hb26.mono HB22_25.out.size))
      have HB23_26 := hid (HB23_25.out.trans (hb26.mono HB23_25.out.size))
      have HOw0_26 := hid (own_below HOw0_25.out hb26)
      have HOg0_26 := hid (own_below HOg0_25.out hb26)
      have HOt1_26 := hid (own_below HOt1_25.out hb26)
      have HOt2_26 := hid (own_below HOt2_25.out hb26)
      have HOh0_26 := hid (own_below HOh0_25.out hb26)
      have HVA_26 := hid ((hb26.block _ (by omega)).trans HVA_25.out)
      have HVW_26 := hid ((hb26.block _ (by omega)).trans HVW_25.out)
      have HVX_26 := hid ((hb26.block _ (by omega)).trans HVX_25.out)
      have HVG_26 := hid ((hb26.block _ (by omega)).trans HVG_25.out)
      have HVH_26 := hid ((hb26.block _ (by omega)).trans HVH_25.out)
      clear HB0_25 HB3_25 HB4_25 HB5_25 HB21_25 HB22_25 HB23_25 HOw0_25 HOg0_25 HOt1_25 HOt2_25 HOh0_25 HVA_25 HVW_25 HVX_25 HVG_25 HVH_25
      clear hb26
      go_wp2
      go_ret
      exact ⟨rfl, HB0_26.out⟩
    · rw [if_neg hl] at CZ
      go_enter Try.func6, Try.ntmps6
      go_wp2_with (go_at_call 14; rw [← HW1.out]; refine (CZ.out _ _ (HFa.out.on HB0_1.out)).mono ?_; rintro e w2 ⟨rfl, hb2⟩; refine Hid.out ?_)
      refine hid ?_
      have HB0_2 := hid (HB0_1.out.trans (hb2.mono HB0_1.out.size))
      clear hb2
      go_wp2
      go_ret
      exact ⟨rfl, HB0_2.out⟩
  · have hvd : (vs.length : Int) > 1048576 := by omega
    go_enter Try.func6, Try.ntmps6
    go_wp2
    go_ret
    rw [← HW1.out]
    exact ⟨rfl, HB0_1.out⟩
end Go.Proofs.Ytdkleogklfgafaa
