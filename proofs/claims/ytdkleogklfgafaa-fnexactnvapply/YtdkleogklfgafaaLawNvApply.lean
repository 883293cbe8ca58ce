/- The law on NvApply, walked: it answers true. -/
import Derived.Test.YtdkleogklfgafaaNvApS
import Derived.Test.YtdkleogklfgafaaNvRHelp
import Derived.Test.YtdkleogklfgafaaWrArg
namespace Go.Proofs.Ytdkleogklfgafaa
open Go.RowKit
open Go.Lib (hid)

theorem kept_apart {v x : Value} {a b c d : Nat} (hv : ∀ k, v.ownBlock = some k → a ≤ k ∧ k < b) (hx : ∀ k, x.ownBlock = some k → c ≤ k ∧ k < d) (h : b ≤ c ∨ d ≤ a) : v.ownBlock = none ∨ v.ownBlock ≠ x.ownBlock := by
  cases hb : v.ownBlock with
  | none => exact Or.inl rfl
  | some k =>
    refine Or.inr (fun e => ?_)
    have h1 := hv k hb
    have h2 := hx k e.symm
    omega

theorem applyOut_few (s : Int) (l : List Int) (n : Nat) (F : List Int) (cnt : Int) (hl : l.length ≤ 1048576) : (applyOut s l n F cnt).2.1.length ≤ 1048576 := by
  unfold applyOut
  split
  · show (doneW F l _).length ≤ _
    rw [doneW_len]
    exact hl
  · exact Nat.zero_le _

set_option maxRecDepth 20000 in
set_option maxHeartbeats 4000000 in
theorem law_apply_calls (s : Int) (l : List Int) (hm : l.length ≤ maxLen) (n : Nat) (F : List Int) (hnm : n ≤ maxLen) (cnt : Int) (hcn : cnt ≤ 9223372036854775807) (a b : Value) (w : World) (ha : ArgInts w a l) (hb : ArgW w b n F) :
    Calls Try.prog 5 #[.agg #[.int .i64 s, a], b, .int .i64 cnt] w fun e w' => e = .returned (.bool true) ∧ Below w.heap.size w w' := by
  have HFa := hid ha
  have HFb := hid hb
  have CZ := hid (fun a W (hW : ArgInts W a l) => sz_nv s l hm 1048576 (Nat.le_refl _) a W hW)
  obtain ⟨p0, c0, rfl, _⟩ := ha
  obtain ⟨hFl, q0, d0, rfl, _⟩ := hb
  have HFL := hid hFl
  clear hFl
  have HB0_0 : Hid (Below w.heap.size w w) := hid (Below.refl _ _)
  have hz0 : w.heap.size ≤ w.heap.size := Nat.le_refl _
  obtain ⟨w1, hw1⟩ : ∃ W, W = w.alloc (.cells #[.int .i64 s, .slice p0 l.length c0] 35) := ⟨_, rfl⟩
  have hb1 : Below w.heap.size w w1 := by rw [hw1]; exact (Below.refl _ _).alloc (Nat.le_refl _) _
  have hz1 : w.heap.size < w1.heap.size := by rw [hw1]; simp
  have HVA_1 : Hid (w1.heap[w.heap.size]? = some (.cells #[.int .i64 s, .slice p0 l.length c0] 35)) := hid (by rw [hw1]; exact heap_alloc_new _ _)
  have HW1 := hid hw1
  have HB0_1 := hid (HB0_0.out.trans (hb1.mono HB0_0.out.size))
  clear hw1 hb1
  by_cases hl : l.length ≤ 1048576
  · skip
    rw [if_pos hl] at CZ
    obtain ⟨z, hz⟩ : ∃ z : Nat, z = 1048576 - l.length := ⟨_, rfl⟩
    rw [← hz] at CZ
    have CY := hid (fun a W (hW : ArgW W a n F) => sz_writes n F hnm z (by omega) a W hW)
    have hd : ¬ ((z : Nat) : Int) < 0 := by omega
    by_cases hn : n ≤ z
    · skip
      rw [if_pos hn] at CY
      have hn2 : n ≤ 1048576 := by omega
      have hd2 : ¬ ((z - n : Nat) : Int) < 0 := by omega
      generalize ((z - n : Nat) : Int) = z2 at *
      have hfew := applyOut_few s l n F cnt hl
      have CI := hid (fun a b w ha hb => apply_impl s l hl n F cnt hcn a b w ha hb)
      have CS := hid (fun a b w ha hb => apply_spec s l hl n F cnt hcn a b w ha hb)
      unfold ApplyPost at CI CS
      have TA := hid (fun a W (hW : ArgInts W a l) => to_nv s l hl a W hW)
      generalize (applyOut s l n F cnt).1 = rs at *
      generalize (applyOut s l n F cnt).2.2 = rb at *
      generalize (applyOut s l n F cnt).2.1 = L at *
      have hbb : (rb != rb) = false := by cases rb <;> rfl
      have hmm : ¬ ((1 + l.length + 2 * n : Nat) : Int) < 0 := by omega
      clear hz
      go_enter Try.func5, Try.ntmps5
      go_wp2_with (go_at_call 14; rw [← HW1.out]; refine (CZ.out _ _ (HFa.out.on HB0_1.out)).mono ?_; rintro e w2 ⟨rfl, hb2⟩; refine Hid.out ?_)
      refine hid ?_
      have hz2 := hb2.size
      have HB0_2 := hid (HB0_1.out.trans (hb2.mono HB0_1.out.size))
      have HVA_2 := hid ((hb2.block _ (by omega)).trans HVA_1.out)
      clear HB0_1 HVA_1
      clear hb2
      go_wp2_with (go_at_call 15; refine (CY.out _ _ (HFb.out.on HB0_2.out)).mono ?_; rintro e w3 ⟨rfl, hb3⟩; refine Hid.out ?_)
      refine hid ?_
      have hz3 := hb3.size
      have HB0_3 := hid (HB0_2.out.trans (hb3.mono HB0_2.out.size))
      have HVA_3 := hid ((hb3.block _ (by omega)).trans HVA_2.out)
      clear HB0_2 HVA_2
      clear hb3
      have k_A_0 := (cell_of_row _ _ 0 _ _ _ HVA_3.out).trans rfl
      have k_A_1 := (cell_of_row _ _ 1 _ _ _ HVA_3.out).trans rfl
      go_wp2_with (go_at_call 17; refine (TA.out _ _ (HFa.out.on HB0_3.out)).mono ?_; rintro e w4 ⟨sv4, rfl, hb4, ho4⟩; refine Hid.out ?_)
      refine hid ?_
      clear k_A_0 k_A_1
      have hz4 := hb4.size
      have HB0_4 := hid (HB0_3.out.trans (hb4.mono HB0_3.out.size))
      have HVA_4 := hid ((hb4.block _ (by omega)).trans HVA_3.out)
      clear HB0_3 HVA_3
      have HB4_4 : Hid (Below w4.heap.size w4 w4) := hid (Below.refl _ _)
      have HOt1_4 := hid ho4
      have HLt1 := hid (ho4.lt)
      obtain ⟨p4, c4, rfl, _, _⟩ := row_in_own HOt1_4.out
      clear hb4 ho4
      go_wp2_with (go_at_call 18; refine (to_writes n F hn2 _ _ (HFb.out.on HB0_4.out)).mono ?_; rintro e w5 ⟨rfl, hb5, ho5⟩; refine Hid.out ?_)
      refine hid ?_
      have hz5 := hb5.size
      have HB0_5 := hid (HB0_4.out.trans (hb5.mono HB0_4.out.size))
      have HB4_5 := hid (HB4_4.out.trans (hb5.mono HB4_4.out.size))
      have HOt1_5 := hid (own_below HOt1_4.out hb5)
      have HVA_5 := hid ((hb5.block _ (by omega)).trans HVA_4.out)
      clear HB0_4 HB4_4 HOt1_4 HVA_4
      have HB5_5 : Hid (Below w5.heap.size w5 w5) := hid (Below.refl _ _)
      have HOt2_5 := hid ho5
      have HLt2 := hid (ho5.lt)
      clear hb5 ho5
      go_wp2_with (go_at_call 16; refine (CS.out _ _ _ (row_in_own HOt1_5.out) (wrow_own HFL.out HOt2_5.out)).mono ?_; rintro e w6 ⟨sv6, rfl, hb6, ho6⟩; refine Hid.out ?_)
      refine hid ?_
      have hz6 := hb6.size
      have HB0_6 := hid (HB0_5.out.trans (hb6.mono HB0_5.out.size))
      have HB4_6 := hid (HB4_5.out.trans (hb6.mono HB4_5.out.size))
      have HB5_6 := hid (HB5_5.out.trans (hb6.mono HB5_5.out.size))
      have HOt1_6 := hid (own_below HOt1_5.out hb6)
      have HOt2_6 := hid (own_below HOt2_5.out hb6)
      have HVA_6 := hid ((hb6.block _ (by omega)).trans HVA_5.out)
      clear HB0_5 HB4_5 HB5_5 HOt1_5 HOt2_5 HVA_5
      have HB6_6 : Hid (Below w6.heap.size w6 w6) := hid (Below.refl _ _)
      have HOw0_6 := hid ho6
      have HLw0 := hid (ho6.lt)
      obtain ⟨p6, c6, rfl, _, _⟩ := row_in_own HOw0_6.out
      clear hb6 ho6
      obtain ⟨w7, hw7⟩ : ∃ W, W = w6.alloc (.cells #[.int .i64 rs, .slice p6 L.length c6] 26) := ⟨_, rfl⟩
      have hb7 : Below w6.heap.size w6 w7 := by rw [hw7]; exact (Below.refl _ _).alloc (Nat.le_refl _) _
      have hz7 : w6.heap.size < w7.heap.size := by rw [hw7]; simp
      have HVW_7 : Hid (w7.heap[w6.heap.size]? = some (.cells #[.int .i64 rs, .slice p6 L.length c6] 26)) := hid (by rw [hw7]; exact heap_alloc_new _ _)
      have HW7 := hid hw7
      have HB0_7 := hid (HB0_6.out.trans (hb7.mono HB0_6.out.size))
      have HB4_7 := hid (HB4_6.out.trans (hb7.mono HB4_6.out.size))
      have HB5_7 := hid (HB5_6.out.trans (hb7.mono HB5_6.out.size))
      have HB6_7 := hid (HB6_6.out.trans (hb7.mono HB6_6.out.size))
      have HOt1_7 := hid (own_below HOt1_6.out hb7)
      have HOt2_7 := hid (own_below HOt2_6.out hb7)
      have HOw0_7 := hid (own_below HOw0_6.out hb7)
      have HVA_7 := hid ((hb7.block _ (by omega)).trans HVA_6.out)
      clear HB0_6 HB4_6 HB5_6 HB6_6 HOt1_6 HOt2_6 HOw0_6
      clear hw7 hb7
      have kz_A : w.heap.size < w6.heap.size := by omega
      have k_A_0 := (cell_of_row _ _ 0 _ _ _ HVA_6.out).trans rfl
      have k_A_1 := (cell_of_row _ _ 1 _ _ _ HVA_6.out).trans rfl
      go_wp2_with (go_at_call 17; rw [← HW7.out]; refine (TA.out _ _ (HFa.out.on HB0_7.out)).mono ?_; rintro e w8 ⟨sv8, rfl, hb8, ho8⟩; refine Hid.out ?_)
      refine hid ?_
      clear kz_A k_A_0 k_A_1
      clear HVA_6
      have hz8 := hb8.size
      have HB0_8 := hid (HB0_7.out.trans (hb8.mono HB0_7.out.size))
      have HB4_8 := hid (HB4_7.out.trans (hb8.mono HB4_7.out.size))
      have HB5_8 := hid (HB5_7.out.trans (hb8.mono HB5_7.out.size))
      have HB6_8 := hid (HB6_7.out.trans (hb8.mono HB6_7.out.size))
      have HOt1_8 := hid (own_below HOt1_7.out hb8)
      have HOt2_8 := hid (own_below HOt2_7.out hb8)
      have HOw0_8 := hid (own_below HOw0_7.out hb8)
      have HVA_8 := hid ((hb8.block _ (by omega)).trans HVA_7.out)
      have HVW_8 := hid ((hb8.block _ (by omega)).trans HVW_7.out)
      clear HB0_7 HB4_7 HB5_7 HB6_7 HOt1_7 HOt2_7 HOw0_7 HVA_7 HVW_7
      have HB8_8 : Hid (Below w8.heap.size w8 w8) := hid (Below.refl _ _)
      have HOx0_8 := hid ho8
      have HLx0 := hid (ho8.lt)
      obtain ⟨p8, c8, rfl, _, _⟩ := row_in_own HOx0_8.out
      clear hb8 ho8
      obtain ⟨w9, hw9⟩ : ∃ W, W = w8.alloc (.cells #[.int .i64 s, .slice p8 l.length c8] 26) := ⟨_, rfl⟩
      have hb9 : Below w8.heap.size w8 w9 := by rw [hw9]; exact (Below.refl _ _).alloc (Nat.le_refl _) _
      have hz9 : w8.heap.size < w9.heap.size := by rw [hw9]; simp
      have HVX_9 : Hid (w9.heap[w8.heap.size]? = some (.cells #[.int .i64 s, .slice p8 l.length c8] 26)) := hid (by rw [hw9]; exact heap_alloc_new _ _)
      have HW9 := hid hw9
      have HB0_9 := hid (HB0_8.out.trans (hb9.mono HB0_8.out.size))
      have HB4_9 := hid (HB4_8.out.trans (hb9.mono HB4_8.out.size))
      have HB5_9 := hid (HB5_8.out.trans (hb9.mono HB5_8.out.size))
      have HB6_9 := hid (HB6_8.out.trans (hb9.mono HB6_8.out.size))
      have HB8_9 := hid (HB8_8.out.trans (hb9.mono HB8_8.out.size))
      have HOt1_9 := hid (own_below HOt1_8.out hb9)
      have HOt2_9 := hid (own_below HOt2_8.out hb9)
      have HOw0_9 := hid (own_below HOw0_8.out hb9)
      have HOx0_9 := hid (own_below HOx0_8.out hb9)
      have HVA_9 := hid ((hb9.block _ (by omega)).trans HVA_8.out)
      have HVW_9 := hid ((hb9.block _ (by omega)).trans HVW_8.out)
      clear HB0_8 HB4_8 HB5_8 HB6_8 HB8_8 HOt1_8 HOt2_8 HOw0_8 HOx0_8
      clear hw9 hb9
      go_wp2_with (go_at_call 18; rw [← HW9.out]; refine (to_writes n F hn2 _ _ (HFb.out.on HB0_9.out)).mono ?_; rintro e w10 ⟨rfl, hb10, ho10⟩; refine Hid.out ?_)
      refine hid ?_
      clear HVA_8 HVW_8
      have hz10 := hb10.size
      have HB0_10 := hid (HB0_9.out.trans (hb10.mono HB0_9.out.size))
      have HB4_10 := hid (HB4_9.out.trans (hb10.mono HB4_9.out.size))
      have HB5_10 := hid (HB5_9.out.trans (hb10.mono HB5_9.out.size))
      have HB6_10 := hid (HB6_9.out.trans (hb10.mono HB6_9.out.size))
      have HB8_10 := hid (HB8_9.out.trans (hb10.mono HB8_9.out.size))
      have HOt1_10 := hid (own_below HOt1_9.out hb10)
      have HOt2_10 := hid (own_below HOt2_9.out hb10)
      have HOw0_10 := hid (own_below HOw0_9.out hb10)
      have HOx0_10 := hid (own_below HOx0_9.out hb10)
      have HVA_10 := hid ((hb10.block _ (by omega)).trans HVA_9.out)
      have HVW_10 := hid ((hb10.block _ (by omega)).trans HVW_9.out)
      have HVX_10 := hid ((hb10.block _ (by omega)).trans HVX_9.out)
      clear HB0_9 HB4_9 HB5_9 HB6_9 HB8_9 HOt1_9 HOt2_9 HOw0_9 HOx0_9 HVA_9 HVW_9 HVX_9
      have HB10_10 : Hid (Below w10.heap.size w10 w10) := hid (Below.refl _ _)
      have HOx1_10 := hid ho10
      have HLx1 := hid (ho10.lt)
      clear hb10 ho10
      have k_X_0 := (cell_of_row _ _ 0 _ _ _ HVX_10.out).trans rfl
      have k_X_1 := (cell_of_row _ _ 1 _ _ _ HVX_10.out).trans rfl
      go_wp2_with (go_at_call 19; refine (CI.out _ _ _ (row_in_own HOx0_10.out) (wrow_own HFL.out HOx1_10.out)).mono ?_; rintro e w11 ⟨sv11, rfl, hb11, ho11⟩; refine Hid.out ?_)
      refine hid ?_
      clear k_X_0 k_X_1
      have hz11 := hb11.size
      have HB0_11 := hid (HB0_10.out.trans (hb11.mono HB0_10.out.size))
      have HB4_11 := hid (HB4_10.out.trans (hb11.mono HB4_10.out.size))
      have HB5_11 := hid (HB5_10.out.trans (hb11.mono HB5_10.out.size))
      have HB6_11 := hid (HB6_10.out.trans (hb11.mono HB6_10.out.size))
      have HB8_11 := hid (HB8_10.out.trans (hb11.mono HB8_10.out.size))
      have HB10_11 := hid (HB10_10.out.trans (hb11.mono HB10_10.out.size))
      have HOt1_11 := hid (own_below HOt1_10.out hb11)
      have HOt2_11 := hid (own_below HOt2_10.out hb11)
      have HOw0_11 := hid (own_below HOw0_10.out hb11)
      have HOx0_11 := hid (own_below HOx0_10.out hb11)
      have HOx1_11 := hid (own_below HOx1_10.out hb11)
      have HVA_11 := hid ((hb11.block _ (by omega)).trans HVA_10.out)
      have HVW_11 := hid ((hb11.block _ (by omega)).trans HVW_10.out)
      have HVX_11 := hid ((hb11.block _ (by omega)).trans HVX_10.out)
      clear HB0_10 HB4_10 HB5_10 HB6_10 HB8_10 HB10_10 HOt1_10 HOt2_10 HOw0_10 HOx0_10 HOx1_10 HVA_10 HVW_10 HVX_10
      have HB11_11 : Hid (Below w11.heap.size w11 w11) := hid (Below.refl _ _)
      have HOg0_11 := hid ho11
      have HLg0 := hid (ho11.lt)
      obtain ⟨p11, c11, rfl, _, _⟩ := row_in_own HOg0_11.out
      clear hb11 ho11
      obtain ⟨w12, hw12⟩ : ∃ W, W = w11.alloc (.cells #[.int .i64 rs, .slice p11 L.length c11] 26) := ⟨_, rfl⟩
      have hb12 : Below w11.heap.size w11 w12 := by rw [hw12]; exact (Below.refl _ _).alloc (Nat.le_refl _) _
      have hz12 : w11.heap.size < w12.heap.size := by rw [hw12]; simp
      have HVG_12 : Hid (w12.heap[w11.heap.size]? = some (.cells #[.int .i64 rs, .slice p11 L.length c11] 26)) := hid (by rw [hw12]; exact heap_alloc_new _ _)
      have HW12 := hid hw12
      have HB0_12 := hid (HB0_11.out.trans (hb12.mono HB0_11.out.size))
      have HB4_12 := hid (HB4_11.out.trans (hb12.mono HB4_11.out.size))
      have HB5_12 := hid (HB5_11.out.trans (hb12.mono HB5_11.out.size))
      have HB6_12 := hid (HB6_11.out.trans (hb12.mono HB6_11.out.size))
      have HB8_12 := hid (HB8_11.out.trans (hb12.mono HB8_11.out.size))
      have HB10_12 := hid (HB10_11.out.trans (hb12.mono HB10_11.out.size))
      have HB11_12 := hid (HB11_11.out.trans (hb12.mono HB11_11.out.size))
      have HOt1_12 := hid (own_below HOt1_11.out hb12)
      have HOt2_12 := hid (own_below HOt2_11.out hb12)
      have HOw0_12 := hid (own_below HOw0_11.out hb12)
      have HOx0_12 := hid (own_below HOx0_11.out hb12)
      have HOx1_12 := hid (own_below HOx1_11.out hb12)
      have HOg0_12 := hid (own_below HOg0_11.out hb12)
      have HVA_12 := hid ((hb12.block _ (by omega)).trans HVA_11.out)
      have HVW_12 := hid ((hb12.block _ (by omega)).trans HVW_11.out)
      have HVX_12 := hid ((hb12.block _ (by omega)).trans HVX_11.out)
      clear HB0_11 HB4_11 HB5_11 HB6_11 HB8_11 HB10_11 HB11_11 HOt1_11 HOt2_11 HOw0_11 HOx0_11 HOx1_11 HOg0_11
      clear hw12 hb12
      have kz_W : w6.heap.size < w11.heap.size := by omega
      have k_W_0 := (cell_of_row _ _ 0 _ _ _ HVW_11.out).trans rfl
      have k_W_1 := (cell_of_row _ _ 1 _ _ _ HVW_11.out).trans rfl
      go_wp2_with (go_at_call 20; rw [← HW12.out]; refine (eq_nv rs L (by omega) _ _ _ (row_in_own HOg0_12.out) (row_in_own HOw0_12.out)).mono ?_; rintro e w13 ⟨rfl, hb13⟩; refine Hid.out ?_)
      refine hid ?_
      clear kz_W k_W_0 k_W_1
      clear HVA_11 HVW_11 HVX_11
      have hz13 := hb13.size
      have HB0_13 := hid (HB0_12.out.trans (hb13.mono HB0_12.out.size))
      have HB4_13 := hid (HB4_12.out.trans (hb13.mono HB4_12.out.size))
      have HB5_13 := hid (HB5_12.out.trans (hb13.mono HB5_12.out.size))
      have HB6_13 := hid (HB6_12.out.trans (hb13.mono HB6_12.out.size))
      have HB8_13 := hid (HB8_12.out.trans (hb13.mono HB8_12.out.size))
      have HB10_13 := hid (HB10_12.out.trans (hb13.mono HB10_12.out.size))
      have HB11_13 := hid (HB11_12.out.trans (hb13.mono HB11_12.out.size))
      have HOw0_13 := hid (own_below HOw0_12.out hb13)
      have HOx0_13 := hid (own_below HOx0_12.out hb13)
      have HOx1_13 := hid (own_below HOx1_12.out hb13)
      have HOg0_13 := hid (own_below HOg0_12.out hb13)
      have HVA_13 := hid ((hb13.block _ (by omega)).trans HVA_12.out)
      have HVW_13 := hid ((hb13.block _ (by omega)).trans HVW_12.out)
      have HVX_13 := hid ((hb13.block _ (by omega)).trans HVX_12.out)
      have HVG_13 := hid ((hb13.block _ (by omega)).trans HVG_12.out)
      clear HB0_12 HB4_12 HB5_12 HB6_12 HB8_12 HB10_12 HB11_12 HOw0_12 HOx0_12 HOx1_12 HOg0_12 HVA_12 HVW_12 HVX_12 HVG_12
      clear hb13
      have CT := hid (fun W (h : Below w13.heap.size w13 W) => TA.out _ W (HFa.out.on (HB0_13.out.trans (h.mono HB0_13.out.size))))
      have CE := hid (fun sv W (h : Below w13.heap.size w13 W) (hr : RowIn W sv l) => eq_nv s l (by omega) _ sv W ((row_in_own HOx0_13.out).on h) hr)
      have k_X_0 : ∀ W : World, Below w13.heap.size w13 W → W.cell? ⟨_, 0, none⟩ = some (.int .i64 s) := fun W hW => (cell_of_row _ _ 0 _ _ _ ((hW.block _ (by omega)).trans HVX_13.out)).trans rfl
      have k_X_1 : ∀ W : World, Below w13.heap.size w13 W → W.cell? ⟨_, 1, none⟩ = some (.slice p8 l.length c8) := fun W hW => (cell_of_row _ _ 1 _ _ _ ((hW.block _ (by omega)).trans HVX_13.out)).trans rfl
      have k_A_0 : ∀ W : World, Below w13.heap.size w13 W → W.cell? ⟨_, 0, none⟩ = some (.int .i64 s) := fun W hW => (cell_of_row _ _ 0 _ _ _ ((hW.block _ (by omega)).trans HVA_13.out)).trans rfl
      have k_A_1 : ∀ W : World, Below w13.heap.size w13 W → W.cell? ⟨_, 1, none⟩ = some (.slice p0 l.length c0) := fun W hW => (cell_of_row _ _ 1 _ _ _ ((hW.block _ (by omega)).trans HVA_13.out)).trans rfl
      go_wp2
      go_region_held3 (fun w' => Below w13.heap.size w13 w') (first | with_reducible assumption | exact Below.drew (Below.refl _ _) | exact below_step (by assumption) (by simp) (by assumption)) ((first | (go_at_call 17; refine (CT.out _ (by assumption)).mono ?_; rintro e x1 ⟨sv1, rfl, hy1, hr1⟩) | (go_at_call 20; refine (CE.out _ _ (by assumption) (row_in_own hr1)).mono ?_; rintro e x2 ⟨rfl, hy2⟩)))
      rename_i hS
      have hb14 := hS
      clear k_X_0 k_X_1 k_A_0 k_A_1
      generalize x2 = w14 at *
      clear hS
      have hz14 := hb14.size
      have HB0_14 := hid (HB0_13.out.trans (hb14.mono HB0_13.out.size))
      have HB4_14 := hid (HB4_13.out.trans (hb14.mono HB4_13.out.size))
      have HB5_14 := hid (HB5_13.out.trans (hb14.mono HB5_13.out.size))
      have HB6_14 := hid (HB6_13.out.trans (hb14.mono HB6_13.out.size))
      have HB8_14 := hid (HB8_13.out.trans (hb14.mono HB8_13.out.size))
      have HB10_14 := hid (HB10_13.out.trans (hb14.mono HB10_13.out.size))
      have HB11_14 := hid (HB11_13.out.trans (hb14.mono HB11_13.out.size))
      have HOw0_14 := hid (own_below HOw0_13.out hb14)
      have HOx0_14 := hid (own_below HOx0_13.out hb14)
      have HOx1_14 := hid (own_below HOx1_13.out hb14)
      have HOg0_14 := hid (own_below HOg0_13.out hb14)
      have HVA_14 := hid ((hb14.block _ (by omega)).trans HVA_13.out)
      have HVW_14 := hid ((hb14.block _ (by omega)).trans HVW_13.out)
      have HVX_14 := hid ((hb14.block _ (by omega)).trans HVX_13.out)
      have HVG_14 := hid ((hb14.block _ (by omega)).trans HVG_13.out)
      clear HB0_13 HB4_13 HB5_13 HB6_13 HB8_13 HB10_13 HB11_13 HOw0_13 HOx0_13 HOx1_13 HOg0_13 HVA_13 HVW_13 HVX_13 HVG_13
      clear hb14
      clear hy1 hr1 hy2
      go_wp2_with (go_at_call 18; refine (to_writes n F hn2 _ _ (HFb.out.on HB0_14.out)).mono ?_; rintro e w15 ⟨rfl, hb15, ho15⟩; refine Hid.out ?_)
      refine hid ?_
      have hz15 := hb15.size
      have HB0_15 := hid (HB0_14.out.trans (hb15.mono HB0_14.out.size))
      have HB4_15 := hid (HB4_14.out.trans (hb15.mono HB4_14.out.size))
      have HB5_15 := hid (HB5_14.out.trans (hb15.mono HB5_14.out.size))
      have HB6_15 := hid (HB6_14.out.trans (hb15.mono HB6_14.out.size))
      have HB8_15 := hid (HB8_14.out.trans (hb15.mono HB8_14.out.size))
      have HB10_15 := hid (HB10_14.out.trans (hb15.mono HB10_14.out.size))
      have HB11_15 := hid (HB11_14.out.trans (hb15.mono HB11_14.out.size))
      have HOw0_15 := hid (own_below HOw0_14.out hb15)
      have HOx0_15 := hid (own_below HOx0_14.out hb15)
      have HOx1_15 := hid (own_below HOx1_14.out hb15)
      have HOg0_15 := hid (own_below HOg0_14.out hb15)
      have HVA_15 := hid ((hb15.block _ (by omega)).trans HVA_14.out)
      have HVW_15 := hid ((hb15.block _ (by omega)).trans HVW_14.out)
      have HVX_15 := hid ((hb15.block _ (by omega)).trans HVX_14.out)
      have HVG_15 := hid ((hb15.block _ (by omega)).trans HVG_14.out)
      clear HB0_14 HB4_14 HB5_14 HB6_14 HB8_14 HB10_14 HB11_14 HOw0_14 HOx0_14 HOx1_14 HOg0_14 HVA_14 HVW_14 HVX_14 HVG_14
      have HB15_15 : Hid (Below w15.heap.size w15 w15) := hid (Below.refl _ _)
      have HFtw := hid (wrow_own HFL.out ho15)
      clear ho15
      clear hb15
      go_wp2_with (go_at_call 21; refine (eq_writes n F (by omega) _ _ _ (wrow_own HFL.out HOx1_15.out) (HFtw.out.on HB15_15.out)).mono ?_; rintro e w16 ⟨rfl, hb16⟩; refine Hid.out ?_)
      refine hid ?_
      have hz16 := hb16.size
      have HB0_16 := hid (HB0_15.out.trans (hb16.mono HB0_15.out.size))
      have HB4_16 := hid (HB4_15.out.trans (hb16.mono HB4_15.out.size))
      have HB5_16 := hid (HB5_15.out.trans (hb16.mono HB5_15.out.size))
      have HB6_16 := hid (HB6_15.out.trans (hb16.mono HB6_15.out.size))
      have HB8_16 := hid (HB8_15.out.trans (hb16.mono HB8_15.out.size))
      have HB10_16 := hid (HB10_15.out.trans (hb16.mono HB10_15.out.size))
      have HB11_16 := hid (HB11_15.out.trans (hb16.mono HB11_15.out.size))
      have HB15_16 := hid (HB15_15.out.trans (hb16.mono HB15_15.out.size))
      have HOw0_16 := hid (own_below HOw0_15.out hb16)
      have HOx0_16 := hid (own_below HOx0_15.out hb16)
      have HOx1_16 := hid (own_below HOx1_15.out hb16)
      have HOg0_16 := hid (own_below HOg0_15.out hb16)
      have HVA_16 := hid ((hb16.block _ (by omega)).trans HVA_15.out)
      have HVW_16 := hid ((hb16.block _ (by omega)).trans HVW_15.out)
      have HVX_16 := hid ((hb16.block _ (by omega)).trans HVX_15.out)
      have HVG_16 := hid ((hb16.block _ (by omega)).trans HVG_15.out)
      clear HB0_15 HB4_15 HB5_15 HB6_15 HB8_15 HB10_15 HB11_15 HB15_15 HOw0_15 HOx0_15 HOx1_15 HOg0_15 HVA_15 HVW_15 HVX_15 HVG_15
      clear hb16
      have k_X_0 := (cell_of_row _ _ 0 _ _ _ HVX_16.out).trans rfl
      have k_X_1 := (cell_of_row _ _ 1 _ _ _ HVX_16.out).trans rfl
      go_wp2_with (go_at_call 22; refine (mark_nv s l 1 (by omega) _ _ _ HOx0_16.out).mono ?_; rintro e w17 ⟨rfl, hg17, ho17⟩; refine Hid.out ?_)
      refine hid ?_
      clear k_X_0 k_X_1
      have hz17 := hg17.size
      have HB0_17 := hid (HB0_16.out.trans (grown_to hg17 HB0_16.out.size (fun k hk => by have := (HLx0.out k hk).1; omega)))
      have HB4_17 := hid (HB4_16.out.trans (grown_to hg17 HB4_16.out.size (fun k hk => by have := (HLx0.out k hk).1; omega)))
      have HB5_17 := hid (HB5_16.out.trans (grown_to hg17 HB5_16.out.size (fun k hk => by have := (HLx0.out k hk).1; omega)))
      have HB6_17 := hid (HB6_16.out.trans (grown_to hg17 HB6_16.out.size (fun k hk => by have := (HLx0.out k hk).1; omega)))
      have HOw0_17 := hid (HOw0_16.out.kept hg17 (kept_apart HLw0.out HLx0.out (by omega)))
      have HOx1_17 := hid (HOx1_16.out.kept hg17 (kept_apart HLx1.out HLx0.out (by omega)))
      have HOg0_17 := hid (HOg0_16.out.kept hg17 (kept_apart HLg0.out HLx0.out (by omega)))
      have HOx0_17 := hid ho17
      have HVA_17 := hid ((hg17.block _ (by omega) (fun e => by have := HLx0.out _ e.symm; omega)).trans HVA_16.out)
      have HVW_17 := hid ((hg17.block _ (by omega) (fun e => by have := HLx0.out _ e.symm; omega)).trans HVW_16.out)
      have HVX_17 := hid ((hg17.block _ (by omega) (fun e => by have := HLx0.out _ e.symm; omega)).trans HVX_16.out)
      have HVG_17 := hid ((hg17.block _ (by omega) (fun e => by have := HLx0.out _ e.symm; omega)).trans HVG_16.out)
      clear HB0_16 HB4_16 HB5_16 HB6_16 HB8_16 HB10_16 HB11_16 HB15_16 HOw0_16 HOx0_16 HOx1_16 HOg0_16 HVA_16 HVW_16 HVX_16 HVG_16
      clear hg17 ho17
      go_wp2_with (go_at_call 23; refine (mark_writes F (1 + l.length) n HFL.out (by omega) _ _ _ HOx1_17.out).mono ?_; rintro e w18 ⟨rfl, hg18, ho18⟩; refine Hid.out ?_)
      refine hid ?_
      have hz18 := hg18.size
      have HB0_18 := hid (HB0_17.out.trans (grown_to hg18 HB0_17.out.size (fun k hk => by have := (HLx1.out k hk).1; omega)))
      have HB4_18 := hid (HB4_17.out.trans (grown_to hg18 HB4_17.out.size (fun k hk => by have := (HLx1.out k hk).1; omega)))
      have HB5_18 := hid (HB5_17.out.trans (grown_to hg18 HB5_17.out.size (fun k hk => by have := (HLx1.out k hk).1; omega)))
      have HB6_18 := hid (HB6_17.out.trans (grown_to hg18 HB6_17.out.size (fun k hk => by have := (HLx1.out k hk).1; omega)))
      have HOw0_18 := hid (HOw0_17.out.kept hg18 (kept_apart HLw0.out HLx1.out (by omega)))
      have HOg0_18 := hid (HOg0_17.out.kept hg18 (kept_apart HLg0.out HLx1.out (by omega)))
      have HOx1_18 := hid ho18
      have HVA_18 := hid ((hg18.block _ (by omega) (fun e => by have := HLx1.out _ e.symm; omega)).trans HVA_17.out)
      have HVW_18 := hid ((hg18.block _ (by omega) (fun e => by have := HLx1.out _ e.symm; omega)).trans HVW_17.out)
      have HVX_18 := hid ((hg18.block _ (by omega) (fun e => by have := HLx1.out _ e.symm; omega)).trans HVX_17.out)
      have HVG_18 := hid ((hg18.block _ (by omega) (fun e => by have := HLx1.out _ e.symm; omega)).trans HVG_17.out)
      clear HB0_17 HB4_17 HB5_17 HB6_17 HOw0_17 HOx1_17 HOg0_17 HVA_17 HVW_17 HVX_17 HVG_17
      clear hg18 ho18
      have k_G_0 := (cell_of_row _ _ 0 _ _ _ HVG_18.out).trans rfl
      have k_G_1 := (cell_of_row _ _ 1 _ _ _ HVG_18.out).trans rfl
      have k_W_0 := (cell_of_row _ _ 0 _ _ _ HVW_18.out).trans rfl
      have k_W_1 := (cell_of_row _ _ 1 _ _ _ HVW_18.out).trans rfl
      go_wp2_with (go_at_call 20; refine (eq_nv rs L (by omega) _ _ _ (row_in_own HOg0_18.out) (row_in_own HOw0_18.out)).mono ?_; rintro e w19 ⟨rfl, hb19⟩; refine Hid.out ?_)
      refine hid ?_
      clear k_G_0 k_G_1 k_W_0 k_W_1
      have hz19 := hb19.size
      have HB0_19 := hid (HB0_18.out.trans (hb19.mono HB0_18.out.size))
      have HB4_19 := hid (HB4_18.out.trans (hb19.mono HB4_18.out.size))
      have HB5_19 := hid (HB5_18.out.trans (hb19.mono HB5_18.out.size))
      have HB6_19 := hid (HB6_18.out.trans (hb19.mono HB6_18.out.size))
      have HOw0_19 := hid (own_below HOw0_18.out hb19)
      have HOg0_19 := hid (own_below HOg0_18.out hb19)
      have HVA_19 := hid ((hb19.block _ (by omega)).trans HVA_18.out)
      have HVW_19 := hid ((hb19.block _ (by omega)).trans HVW_18.out)
      have HVX_19 := hid ((hb19.block _ (by omega)).trans HVX_18.out)
      have HVG_19 := hid ((hb19.block _ (by omega)).trans HVG_18.out)
      clear HB0_18 HB4_18 HB5_18 HB6_18 HOw0_18 HOg0_18 HVA_18 HVW_18 HVX_18 HVG_18
      clear hb19
      have k_G_0 := (cell_of_row _ _ 0 _ _ _ HVG_19.out).trans rfl
      have k_G_1 := (cell_of_row _ _ 1 _ _ _ HVG_19.out).trans rfl
      go_wp2_with (go_at_call 22; refine (mark_nv rs L 1 (by omega) _ _ _ HOg0_19.out).mono ?_; rintro e w20 ⟨rfl, hg20, ho20⟩; refine Hid.out ?_)
      refine hid ?_
      clear k_G_0 k_G_1
      have hz20 := hg20.size
      have HB0_20 := hid (HB0_19.out.trans (grown_to hg20 HB0_19.out.size (fun k hk => by have := (HLg0.out k hk).1; omega)))
      have HB4_20 := hid (HB4_19.out.trans (grown_to hg20 HB4_19.out.size (fun k hk => by have := (HLg0.out k hk).1; omega)))
      have HB5_20 := hid (HB5_19.out.trans (grown_to hg20 HB5_19.out.size (fun k hk => by have := (HLg0.out k hk).1; omega)))
      have HB6_20 := hid (HB6_19.out.trans (grown_to hg20 HB6_19.out.size (fun k hk => by have := (HLg0.out k hk).1; omega)))
      have HOw0_20 := hid (HOw0_19.out.kept hg20 (kept_apart HLw0.out HLg0.out (by omega)))
      have HOg0_20 := hid ho20
      have HVA_20 := hid ((hg20.block _ (by omega) (fun e => by have := HLg0.out _ e.symm; omega)).trans HVA_19.out)
      have HVW_20 := hid ((hg20.block _ (by omega) (fun e => by have := HLg0.out _ e.symm; omega)).trans HVW_19.out)
      have HVX_20 := hid ((hg20.block _ (by omega) (fun e => by have := HLg0.out _ e.symm; omega)).trans HVX_19.out)
      have HVG_20 := hid ((hg20.block _ (by omega) (fun e => by have := HLg0.out _ e.symm; omega)).trans HVG_19.out)
      clear HB0_19 HB4_19 HB5_19 HB6_19 HOw0_19 HOg0_19 HVA_19 HVW_19 HVX_19 HVG_19
      clear hg20 ho20
      have k_G_0 := (cell_of_row _ _ 0 _ _ _ HVG_20.out).trans rfl
      have k_G_1 := (cell_of_row _ _ 1 _ _ _ HVG_20.out).trans rfl
      go_wp2_with (go_at_call 24; refine (held_nv rs 1 L.length (by omega) _ _ (row_in_own2 (imarks_len 1 L.length).symm HOg0_20.out)).mono ?_; rintro e w21 ⟨rfl, hb21⟩; refine Hid.out ?_)
      refine hid ?_
      clear k_G_0 k_G_1
      have hz21 := hb21.size
      have HB0_21 := hid (HB0_20.out.trans (hb21.mono HB0_20.out.size))
      have HB4_21 := hid (HB4_20.out.trans (hb21.mono HB4_20.out.size))
      have HB5_21 := hid (HB5_20.out.trans (hb21.mono HB5_20.out.size))
      have HB6_21 := hid (HB6_20.out.trans (hb21.mono HB6_20.out.size))
      have HOw0_21 := hid (own_below HOw0_20.out hb21)
      have HOg0_21 := hid (own_below HOg0_20.out hb21)
      have HVA_21 := hid ((hb21.block _ (by omega)).trans HVA_20.out)
      have HVW_21 := hid ((hb21.block _ (by omega)).trans HVW_20.out)
      have HVX_21 := hid ((hb21.block _ (by omega)).trans HVX_20.out)
      have HVG_21 := hid ((hb21.block _ (by omega)).trans HVG_20.out)
      clear HB0_20 HB4_20 HB5_20 HB6_20 HOw0_20 HOg0_20 HVA_20 HVW_20 HVX_20 HVG_20
      clear hb21
      have k_A_0 := (cell_of_row _ _ 0 _ _ _ HVA_21.out).trans rfl
      have k_A_1 := (cell_of_row _ _ 1 _ _ _ HVA_21.out).trans rfl
      go_wp2_with (go_at_call 17; refine (TA.out _ _ (HFa.out.on HB0_21.out)).mono ?_; rintro e w22 ⟨sv22, rfl, hb22, ho22⟩; refine Hid.out ?_)
      refine hid ?_
      clear k_A_0 k_A_1
      have hz22 := hb22.size
      have HB0_22 := hid (HB0_21.out.trans (hb22.mono HB0_21.out.size))
      have HB4_22 := hid (HB4_21.out.trans (hb22.mono HB4_21.out.size))
      have HB5_22 := hid (HB5_21.out.trans (hb22.mono HB5_21.out.size))
      have HB6_22 := hid (HB6_21.out.trans (hb22.mono HB6_21.out.size))
      have HOw0_22 := hid (own_below HOw0_21.out hb22)
      have HOg0_22 := hid (own_below HOg0_21.out hb22)
      have HVA_22 := hid ((hb22.block _ (by omega)).trans HVA_21.out)
      have HVW_22 := hid ((hb22.block _ (by omega)).trans HVW_21.out)
      have HVX_22 := hid ((hb22.block _ (by omega)).trans HVX_21.out)
      have HVG_22 := hid ((hb22.block _ (by omega)).trans HVG_21.out)
      clear HB0_21 HB4_21 HB5_21 HB6_21 HOw0_21 HOg0_21 HVA_21 HVW_21 HVX_21 HVG_21
      have HB22_22 : Hid (Below w22.heap.size w22 w22) := hid (Below.refl _ _)
      have HOt1_22 := hid ho22
      have HLt1 := hid (ho22.lt)
      obtain ⟨p22, c22, rfl, _, _⟩ := row_in_own HOt1_22.out
      clear hb22 ho22
      go_wp2_with (go_at_call 18; refine (to_writes n F hn2 _ _ (HFb.out.on HB0_22.out)).mono ?_; rintro e w23 ⟨rfl, hb23, ho23⟩; refine Hid.out ?_)
      refine hid ?_
      have hz23 := hb23.size
      have HB0_23 := hid (HB0_22.out.trans (hb23.mono HB0_22.out.size))
      have HB4_23 := hid (HB4_22.out.trans (hb23.mono HB4_22.out.size))
      have HB5_23 := hid (HB5_22.out.trans (hb23.mono HB5_22.out.size))
      have HB6_23 := hid (HB6_22.out.trans (hb23.mono HB6_22.out.size))
      have HB22_23 := hid (HB22_22.out.trans (hb23.mono HB22_22.out.size))
      have HOw0_23 := hid (own_below HOw0_22.out hb23)
      have HOg0_23 := hid (own_below HOg0_22.out hb23)
      have HOt1_23 := hid (own_below HOt1_22.out hb23)
      have HVA_23 := hid ((hb23.block _ (by omega)).trans HVA_22.out)
      have HVW_23 := hid ((hb23.block _ (by omega)).trans HVW_22.out)
      have HVX_23 := hid ((hb23.block _ (by omega)).trans HVX_22.out)
      have HVG_23 := hid ((hb23.block _ (by omega)).trans HVG_22.out)
      clear HB0_22 HB4_22 HB5_22 HB6_22 HB22_22 HOw0_22 HOg0_22 HOt1_22 HVA_22 HVW_22 HVX_22 HVG_22
      have HB23_23 : Hid (Below w23.heap.size w23 w23) := hid (Below.refl _ _)
      have HOt2_23 := hid ho23
      have HLt2 := hid (ho23.lt)
      clear hb23 ho23
      go_wp2_with (go_at_call 19; refine (CI.out _ _ _ (row_in_own HOt1_23.out) (wrow_own HFL.out HOt2_23.out)).mono ?_; rintro e w24 ⟨sv24, rfl, hb24, ho24⟩; refine Hid.out ?_)
      refine hid ?_
      have hz24 := hb24.size
      have HB0_24 := hid (HB0_23.out.trans (hb24.mono HB0_23.out.size))
      have HB4_24 := hid (HB4_23.out.trans (hb24.mono HB4_23.out.size))
      have HB5_24 := hid (HB5_23.out.trans (hb24.mono HB5_23.out.size))
      have HB6_24 := hid (HB6_23.out.trans (hb24.mono HB6_23.out.size))
      have HB22_24 := hid (HB22_23.out.trans (hb24.mono HB22_23.out.size))
      have HB23_24 := hid (HB23_23.out.trans (hb24.mono HB23_23.out.size))
      have HOw0_24 := hid (own_below HOw0_23.out hb24)
      have HOg0_24 := hid (own_below HOg0_23.out hb24)
      have HOt1_24 := hid (own_below HOt1_23.out hb24)
      have HOt2_24 := hid (own_below HOt2_23.out hb24)
      have HVA_24 := hid ((hb24.block _ (by omega)).trans HVA_23.out)
      have HVW_24 := hid ((hb24.block _ (by omega)).trans HVW_23.out)
      have HVX_24 := hid ((hb24.block _ (by omega)).trans HVX_23.out)
      have HVG_24 := hid ((hb24.block _ (by omega)).trans HVG_23.out)
      clear HB0_23 HB4_23 HB5_23 HB6_23 HB22_23 HB23_23 HOw0_23 HOg0_23 HOt1_23 HOt2_23 HVA_23 HVW_23 HVX_23 HVG_23
      have HB24_24 : Hid (Below w24.heap.size w24 w24) := hid (Below.refl _ _)
      have HOh0_24 := hid ho24
      have HLh0 := hid (ho24.lt)
      obtain ⟨p24, c24, rfl, _, _⟩ := row_in_own HOh0_24.out
      clear hb24 ho24
      obtain ⟨w25, hw25⟩ : ∃ W, W = w24.alloc (.cells #[.int .i64 rs, .slice p24 L.length c24] 26) := ⟨_, rfl⟩
      have hb25 : Below w24.heap.size w24 w25 := by rw [hw25]; exact (Below.refl _ _).alloc (Nat.le_refl _) _
      have hz25 : w24.heap.size < w25.heap.size := by rw [hw25]; simp
      have HVH_25 : Hid (w25.heap[w24.heap.size]? = some (.cells #[.int .i64 rs, .slice p24 L.length c24] 26)) := hid (by rw [hw25]; exact heap_alloc_new _ _)
      have HW25 := hid hw25
      have HB0_25 := hid (HB0_24.out.trans (hb25.mono HB0_24.out.size))
      have HB4_25 := hid (HB4_24.out.trans (hb25.mono HB4_24.out.size))
      have HB5_25 := hid (HB5_24.out.trans (hb25.mono HB5_24.out.size))
      have HB6_25 := hid (HB6_24.out.trans (hb25.mono HB6_24.out.size))
      have HB22_25 := hid (HB22_24.out.trans (hb25.mono HB22_24.out.size))
      have HB23_25 := hid (HB23_24.out.trans (hb25.mono HB23_24.out.size))
      have HB24_25 := hid (HB24_24.out.trans (hb25.mono HB24_24.out.size))
      have HOw0_25 := hid (own_below HOw0_24.out hb25)
      have HOg0_25 := hid (own_below HOg0_24.out hb25)
      have HOt1_25 := hid (own_below HOt1_24.out hb25)
      have HOt2_25 := hid (own_below HOt2_24.out hb25)
      have HOh0_25 := hid (own_below HOh0_24.out hb25)
      have HVA_25 := hid ((hb25.block _ (by omega)).trans HVA_24.out)
      have HVW_25 := hid ((hb25.block _ (by omega)).trans HVW_24.out)
      have HVX_25 := hid ((hb25.block _ (by omega)).trans HVX_24.out)
      have HVG_25 := hid ((hb25.block _ (by omega)).trans HVG_24.out)
      clear HB0_24 HB4_24 HB5_24 HB6_24 HB22_24 HB23_24 HB24_24 HOw0_24 HOg0_24 HOt1_24 HOt2_24 HOh0_24
      clear hw25 hb25
      have kz_W : w6.heap.size < w24.heap.size := by omega
      have k_W_0 := (cell_of_row _ _ 0 _ _ _ HVW_24.out).trans rfl
      have k_W_1 := (cell_of_row _ _ 1 _ _ _ HVW_24.out).trans rfl
      go_wp2_with (go_at_call 20; rw [← HW25.out]; refine (eq_nv rs L (by omega) _ _ _ (row_in_own HOh0_25.out) (row_in_own HOw0_25.out)).mono ?_; rintro e w26 ⟨rfl, hb26⟩; refine Hid.out ?_)
      refine hid ?_
      clear kz_W k_W_0 k_W_1
      clear HVA_24 HVW_24 HVX_24 HVG_24
      have hz26 := hb26.size
      have HB0_26 := hid (HB0_25.out.trans (hb26.mono HB0_25.out.size))
      have HB4_26 := hid (HB4_25.out.trans (hb26.mono HB4_25.out.size))
      have HB5_26 := hid (HB5_25.out.trans (hb26.mono HB5_25.out.size))
      have HB6_26 := hid (HB6_25.out.trans (hb26.mono HB6_25.out.size))
      have HB22_26 := hid (HB22_25.out.trans (hb26.mono HB22_25.out.size))
      have HB23_26 := hid (HB23_25.out.trans (hb26.mono HB23_25.out.size))
      have HB24_26 := hid (HB24_25.out.trans (hb26.mono HB24_25.out.size))
      have HOw0_26 := hid (own_below HOw0_25.out hb26)
      have HOg0_26 := hid (own_below HOg0_25.out hb26)
      have HOt1_26 := hid (own_below HOt1_25.out hb26)
      have HOt2_26 := hid (own_below HOt2_25.out hb26)
      have HOh0_26 := hid (own_below HOh0_25.out hb26)
      have HVA_26 := hid ((hb26.block _ (by omega)).trans HVA_25.out)
      have HVW_26 := hid ((hb26.block _ (by omega)).trans HVW_25.out)
      have HVX_26 := hid ((hb26.block _ (by omega)).trans HVX_25.out)
      have HVG_26 := hid ((hb26.block _ (by omega)).trans HVG_25.out)
      have HVH_26 := hid ((hb26.block _ (by omega)).trans HVH_25.out)
      clear HB0_25 HB4_25 HB5_25 HB6_25 HB22_25 HB23_25 HB24_25 HOw0_25 HOg0_25 HOt1_25 HOt2_25 HOh0_25 HVA_25 HVW_25 HVX_25 HVG_25 HVH_25
      clear hb26
      have k_G_0 := (cell_of_row _ _ 0 _ _ _ HVG_26.out).trans rfl
      have k_G_1 := (cell_of_row _ _ 1 _ _ _ HVG_26.out).trans rfl
      go_wp2_with (go_at_call 24; refine (held_nv rs 1 L.length (by omega) _ _ (row_in_own2 (imarks_len 1 L.length).symm HOg0_26.out)).mono ?_; rintro e w27 ⟨rfl, hb27⟩; refine Hid.out ?_)
      refine hid ?_
      clear k_G_0 k_G_1
      have hz27 := hb27.size
      have HB0_27 := hid (HB0_26.out.trans (hb27.mono HB0_26.out.size))
      have HB4_27 := hid (HB4_26.out.trans (hb27.mono HB4_26.out.size))
      have HB5_27 := hid (HB5_26.out.trans (hb27.mono HB5_26.out.size))
      have HB6_27 := hid (HB6_26.out.trans (hb27.mono HB6_26.out.size))
      have HB22_27 := hid (HB22_26.out.trans (hb27.mono HB22_26.out.size))
      have HB23_27 := hid (HB23_26.out.trans (hb27.mono HB23_26.out.size))
      have HB24_27 := hid (HB24_26.out.trans (hb27.mono HB24_26.out.size))
      have HOw0_27 := hid (own_below HOw0_26.out hb27)
      have HOg0_27 := hid (own_below HOg0_26.out hb27)
      have HOt1_27 := hid (own_below HOt1_26.out hb27)
      have HOt2_27 := hid (own_below HOt2_26.out hb27)
      have HOh0_27 := hid (own_below HOh0_26.out hb27)
      have HVA_27 := hid ((hb27.block _ (by omega)).trans HVA_26.out)
      have HVW_27 := hid ((hb27.block _ (by omega)).trans HVW_26.out)
      have HVX_27 := hid ((hb27.block _ (by omega)).trans HVX_26.out)
      have HVG_27 := hid ((hb27.block _ (by omega)).trans HVG_26.out)
      have HVH_27 := hid ((hb27.block _ (by omega)).trans HVH_26.out)
      clear HB0_26 HB4_26 HB5_26 HB6_26 HB22_26 HB23_26 HB24_26 HOw0_26 HOg0_26 HOt1_26 HOt2_26 HOh0_26 HVA_26 HVW_26 HVX_26 HVG_26 HVH_26
      clear hb27
      go_wp2
      go_ret
      exact ⟨rfl, HB0_27.out⟩
    · rw [if_neg hn] at CY
      clear hz
      go_enter Try.func5, Try.ntmps5
      go_wp2_with (go_at_call 14; rw [← HW1.out]; refine (CZ.out _ _ (HFa.out.on HB0_1.out)).mono ?_; rintro e w2 ⟨rfl, hb2⟩; refine Hid.out ?_)
      refine hid ?_
      have HB0_2 := hid (HB0_1.out.trans (hb2.mono HB0_1.out.size))
      clear hb2
      go_wp2_with (go_at_call 15; refine (CY.out _ _ (HFb.out.on HB0_2.out)).mono ?_; rintro e w3 ⟨rfl, hb3⟩; refine Hid.out ?_)
      refine hid ?_
      have HB0_3 := hid (HB0_2.out.trans (hb3.mono HB0_2.out.size))
      clear hb3
      go_wp2
      go_ret
      exact ⟨rfl, HB0_3.out⟩
  · rw [if_neg hl] at CZ
    go_enter Try.func5, Try.ntmps5
    go_wp2_with (go_at_call 14; rw [← HW1.out]; refine (CZ.out _ _ (HFa.out.on HB0_1.out)).mono ?_; rintro e w2 ⟨rfl, hb2⟩; refine Hid.out ?_)
    refine hid ?_
    have HB0_2 := hid (HB0_1.out.trans (hb2.mono HB0_1.out.size))
    clear hb2
    go_wp2
    go_ret
    exact ⟨rfl, HB0_2.out⟩
end Go.Proofs.Ytdkleogklfgafaa
