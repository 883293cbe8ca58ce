/- The law on FitClock, walked: it answers true. -/
import Derived.Test.YthpnlhbfginkjaaFitImpl
import Derived.Test.YthpnlhbfginkjaaLawKit
namespace Go.Proofs.Ythpnlhbfginkjaa
open Go.RowKit
open Go.Lib (hid)

attribute [local go_sem] run_store_float run_fadd

/-- What is told of ticks and of what was shown at them. -/
def fitQ (l : List Int) (m : List Nat) : Option (Option Nat × Option Nat) := if l.length ≤ 100 ∧ l.length = m.length then fitO (l.zip m) else none

theorem fit_spec_all (l : List Int) (m : List Nat) (a b : Value) (w : World) (ha : RowIn w a l) (hb : RowFl w b m) : Calls Try.prog 14 #[a, b] w (FitPost (fitQ l m) w) := by
  by_cases h : l.length ≤ 100 ∧ l.length = m.length
  · rw [show fitQ l m = fitO (l.zip m) from if_pos h]
    exact fit_spec (l.zip m) (by rw [List.length_zip]; omega) a b w (by rw [List.map_fst_zip (by omega)]; exact ha) (by rw [List.map_snd_zip (by omega)]; exact hb)
  · rw [show fitQ l m = none from if_neg h]
    obtain ⟨p, c, rfl, _⟩ := ha
    obtain ⟨q, d, rfl, _⟩ := hb
    exact fit_spec_no p q l.length m.length c d (by omega) w

theorem fit_impl_all (l : List Int) (m : List Nat) (hs : ∀ x ∈ m, x < 18446744073709551616) (a b : Value) (w : World) (ha : RowIn w a l) (hb : RowFl w b m) : Calls Try.prog 17 #[a, b] w (FitPost (fitQ l m) w) := by
  by_cases h : l.length ≤ 100 ∧ l.length = m.length
  · rw [show fitQ l m = fitO (l.zip m) from if_pos h]
    exact fit_impl (l.zip m) (by rw [List.length_zip]; omega) (fun z hz => hs _ (List.of_mem_zip (show (z.1, z.2) ∈ l.zip m from hz)).2) a b w (by rw [List.map_fst_zip (by omega)]; exact ha) (by rw [List.map_snd_zip (by omega)]; exact hb)
  · rw [show fitQ l m = none from if_neg h]
    obtain ⟨p, c, rfl, _⟩ := ha
    obtain ⟨q, d, rfl, _⟩ := hb
    exact fit_impl_no p q l.length m.length c d (by omega) w

theorem fit_two {q : Option (Option Nat × Option Nat)} {r s r' s' : Nat} {b b' : Bool} (h : FitIs q r s b) (k : FitIs q r' s' b') : ∃ o p, (FS o r ∧ FS o r') ∧ (FS p s ∧ FS p s') ∧ b = b' := by
  cases q with
  | none =>
    obtain ⟨h1, h2, h3⟩ := h
    obtain ⟨k1, k2, k3⟩ := k
    exact ⟨some 0, some 0, ⟨h2, k2⟩, ⟨h3, k3⟩, h1.trans k1.symm⟩
  | some x =>
    obtain ⟨o, p⟩ := x
    obtain ⟨h1, h2, h3⟩ := h
    obtain ⟨k1, k2, k3⟩ := k
    exact ⟨o, p, ⟨h2, k2⟩, ⟨h3, k3⟩, h1.trans k1.symm⟩

set_option maxHeartbeats 1000000 in
theorem eq_Drift2 {o p : Option Nat} {r s r' s' : Nat} (h1 : FS o r) (h2 : FS o r') (h3 : FS p s) (h4 : FS p s') (w : World) :
    Calls Try.prog 18 #[.agg #[.float .f64 r, .float .f64 s], .agg #[.float .f64 r', .float .f64 s']] w fun e w' => e = .returned (.bool true) ∧ Below w.heap.size w w' := by
  have C0 := fun W => same_float h1 h2 W
  have C1 := fun W => same_float h3 h4 W
  go_enter Try.func18, Try.ntmps18
  go_wp2_with (go_at_call 12; refine (C0 _).mono ?_; rintro e wq ⟨rfl, eq⟩; rw [eq]; clear eq wq; refine Hid.out ?_)
  refine hid ?_
  go_wp2_with (go_at_call 12; refine (C1 _).mono ?_; rintro e wq ⟨rfl, eq⟩; rw [eq]; clear eq wq; refine Hid.out ?_)
  refine hid ?_
  go_wp2
  go_ret
  exact ⟨rfl, ((Below.refl _ _).alloc (Nat.le_refl _) _).alloc (by simp) _⟩

set_option maxRecDepth 20000 in
set_option maxHeartbeats 4000000 in
theorem law_fitclock (l : List Int) (m : List Nat) (hs : ∀ x ∈ m, x < 18446744073709551616) (hl : l.length ≤ maxLen) (hm : m.length ≤ maxLen) (a b : Value) (w : World) (ha : ArgInts w a l) (hb : ArgFls w b m) :
    Calls Try.prog 4 #[a, b] w fun e w' => e = .returned (.bool true) ∧ Below w.heap.size w w' := by
  have HFa := hid ha
  have HFb := hid hb
  have CS := hid (fun a b W ha hb => fit_spec_all l m a b W ha hb)
  have CI := hid (fun a b W ha hb => fit_impl_all l m hs a b W ha hb)
  unfold FitPost at CS CI
  generalize fitQ l m = q at *
  obtain ⟨p0, c0, rfl, _⟩ := ha
  obtain ⟨q0, d0, rfl, _⟩ := hb
  unfold maxLen at hl hm
  clear hs
  by_cases hL : l.length ≤ 1048576
  · by_cases hM : m.length ≤ 1048576
    · skip
      have HB0_0 : Hid (Below w.heap.size w w) := hid (Below.refl _ _)
      have hz0 : w.heap.size ≤ w.heap.size := Nat.le_refl _
      go_enter Try.func4, Try.ntmps4
      go_wp2_with (go_at_call 15; refine (to_ints l hL _ _ (HFa.out.on HB0_0.out)).mono ?_; rintro e w1 ⟨rfl, hb1, ho1⟩; refine Hid.out ?_)
      refine hid ?_
      have hz1 := hb1.size
      have HB0_1 := hid (HB0_0.out.trans (hb1.mono HB0_0.out.size))
      have HB1_1 : Hid (Below w1.heap.size w1 w1) := hid (Below.refl _ _)
      have HOt1_1 := hid ho1
      have HLt1 := hid (ho1.lt)
      clear hb1 ho1
      go_wp2_with (go_at_call 16; refine (to_fls m hM _ _ (HFb.out.on HB0_1.out)).mono ?_; rintro e w2 ⟨rfl, hb2, ho2⟩; refine Hid.out ?_)
      refine hid ?_
      have hz2 := hb2.size
      have HB0_2 := hid (HB0_1.out.trans (hb2.mono HB0_1.out.size))
      have HB1_2 := hid (HB1_1.out.trans (hb2.mono HB1_1.out.size))
      have HOt1_2 := hid (own_below HOt1_1.out hb2)
      clear HB0_1 HB1_1 HOt1_1
      have HB2_2 : Hid (Below w2.heap.size w2 w2) := hid (Below.refl _ _)
      have HOt2_2 := hid ho2
      have HLt2 := hid (ho2.lt)
      clear hb2 ho2
      go_wp2_with (go_at_call 14; refine (CS.out _ _ _ (row_in_own HOt1_2.out) (row_fl_own HOt2_2.out)).mono ?_; rintro e w3 ⟨r1, s1, b1, rfl, hi1, hb3⟩; refine Hid.out ?_)
      refine hid ?_
      have hz3 := hb3.size
      have HB0_3 := hid (HB0_2.out.trans (hb3.mono HB0_2.out.size))
      have HB1_3 := hid (HB1_2.out.trans (hb3.mono HB1_2.out.size))
      have HB2_3 := hid (HB2_2.out.trans (hb3.mono HB2_2.out.size))
      have HOt1_3 := hid (own_below HOt1_2.out hb3)
      have HOt2_3 := hid (own_below HOt2_2.out hb3)
      clear HB0_2 HB1_2 HB2_2 HOt1_2 HOt2_2
      have HI1 := hid hi1
      clear hi1
      clear hb3
      obtain ⟨w4, hw4⟩ : ∃ W, W = w3.alloc (.cells #[.float .f64 r1, .float .f64 s1] 34) := ⟨_, rfl⟩
      have hb4 : Below w3.heap.size w3 w4 := by rw [hw4]; exact (Below.refl _ _).alloc (Nat.le_refl _) _
      have hz4 : w3.heap.size < w4.heap.size := by rw [hw4]; simp
      have HVW_4 : Hid (w4.heap[w3.heap.size]? = some (.cells #[.float .f64 r1, .float .f64 s1] 34)) := hid (by rw [hw4]; exact heap_alloc_new _ _)
      have HW4 := hid hw4
      have HB0_4 := hid (HB0_3.out.trans (hb4.mono HB0_3.out.size))
      have HB1_4 := hid (HB1_3.out.trans (hb4.mono HB1_3.out.size))
      have HB2_4 := hid (HB2_3.out.trans (hb4.mono HB2_3.out.size))
      have HOt1_4 := hid (own_below HOt1_3.out hb4)
      have HOt2_4 := hid (own_below HOt2_3.out hb4)
      clear HB0_3 HB1_3 HB2_3 HOt1_3 HOt2_3
      clear hw4 hb4
      go_wp2_with (go_at_call 15; rw [← HW4.out]; refine (to_ints l hL _ _ (HFa.out.on HB0_4.out)).mono ?_; rintro e w5 ⟨rfl, hb5, ho5⟩; refine Hid.out ?_)
      refine hid ?_
      have hz5 := hb5.size
      have HB0_5 := hid (HB0_4.out.trans (hb5.mono HB0_4.out.size))
      have HB1_5 := hid (HB1_4.out.trans (hb5.mono HB1_4.out.size))
      have HB2_5 := hid (HB2_4.out.trans (hb5.mono HB2_4.out.size))
      have HVW_5 := hid ((hb5.block _ (by omega)).trans HVW_4.out)
      clear HB0_4 HB1_4 HB2_4 HVW_4
      have HB5_5 : Hid (Below w5.heap.size w5 w5) := hid (Below.refl _ _)
      have HOx0_5 := hid ho5
      have HLx0 := hid (ho5.lt)
      clear hb5 ho5
      go_wp2_with (go_at_call 16; refine (to_fls m hM _ _ (HFb.out.on HB0_5.out)).mono ?_; rintro e w6 ⟨rfl, hb6, ho6⟩; refine Hid.out ?_)
      refine hid ?_
      have hz6 := hb6.size
      have HB0_6 := hid (HB0_5.out.trans (hb6.mono HB0_5.out.size))
      have HB1_6 := hid (HB1_5.out.trans (hb6.mono HB1_5.out.size))
      have HB2_6 := hid (HB2_5.out.trans (hb6.mono HB2_5.out.size))
      have HB5_6 := hid (HB5_5.out.trans (hb6.mono HB5_5.out.size))
      have HOx0_6 := hid (own_below HOx0_5.out hb6)
      have HVW_6 := hid ((hb6.block _ (by omega)).trans HVW_5.out)
      clear HB0_5 HB1_5 HB2_5 HB5_5 HOx0_5 HVW_5
      have HB6_6 : Hid (Below w6.heap.size w6 w6) := hid (Below.refl _ _)
      have HOx1_6 := hid ho6
      have HLx1 := hid (ho6.lt)
      clear hb6 ho6
      go_wp2_with (go_at_call 17; refine (CI.out _ _ _ (row_in_own HOx0_6.out) (row_fl_own HOx1_6.out)).mono ?_; rintro e w7 ⟨r2, s2, b2, rfl, hi2, hb7⟩; refine Hid.out ?_)
      refine hid ?_
      have hz7 := hb7.size
      have HB0_7 := hid (HB0_6.out.trans (hb7.mono HB0_6.out.size))
      have HB1_7 := hid (HB1_6.out.trans (hb7.mono HB1_6.out.size))
      have HB2_7 := hid (HB2_6.out.trans (hb7.mono HB2_6.out.size))
      have HB5_7 := hid (HB5_6.out.trans (hb7.mono HB5_6.out.size))
      have HB6_7 := hid (HB6_6.out.trans (hb7.mono HB6_6.out.size))
      have HOx0_7 := hid (own_below HOx0_6.out hb7)
      have HOx1_7 := hid (own_below HOx1_6.out hb7)
      have HVW_7 := hid ((hb7.block _ (by omega)).trans HVW_6.out)
      clear HB0_6 HB1_6 HB2_6 HB5_6 HB6_6 HOx0_6 HOx1_6 HVW_6
      have HI2 := hid hi2
      clear hi2
      clear hb7
      obtain ⟨w8, hw8⟩ : ∃ W, W = w7.alloc (.cells #[.float .f64 r2, .float .f64 s2] 34) := ⟨_, rfl⟩
      have hb8 : Below w7.heap.size w7 w8 := by rw [hw8]; exact (Below.refl _ _).alloc (Nat.le_refl _) _
      have hz8 : w7.heap.size < w8.heap.size := by rw [hw8]; simp
      have HVG_8 : Hid (w8.heap[w7.heap.size]? = some (.cells #[.float .f64 r2, .float .f64 s2] 34)) := hid (by rw [hw8]; exact heap_alloc_new _ _)
      have HW8 := hid hw8
      have HB0_8 := hid (HB0_7.out.trans (hb8.mono HB0_7.out.size))
      have HB1_8 := hid (HB1_7.out.trans (hb8.mono HB1_7.out.size))
      have HB2_8 := hid (HB2_7.out.trans (hb8.mono HB2_7.out.size))
      have HB5_8 := hid (HB5_7.out.trans (hb8.mono HB5_7.out.size))
      have HB6_8 := hid (HB6_7.out.trans (hb8.mono HB6_7.out.size))
      have HOx0_8 := hid (own_below HOx0_7.out hb8)
      have HOx1_8 := hid (own_below HOx1_7.out hb8)
      have HVW_8 := hid ((hb8.block _ (by omega)).trans HVW_7.out)
      clear HB0_7 HB1_7 HB2_7 HB5_7 HB6_7 HOx0_7 HOx1_7
      clear hw8 hb8
      have kz_W : w3.heap.size < w7.heap.size := by omega
      have k_W_0 := (cell_of_row _ _ 0 _ _ _ HVW_7.out).trans rfl
      have k_W_1 := (cell_of_row _ _ 1 _ _ _ HVW_7.out).trans rfl
      obtain ⟨o, p, HO, HP, rfl⟩ := fit_two HI1.out HI2.out
      have HOO := hid HO
      have HPP := hid HP
      clear HO HP
      have hbb : (b1 != b1) = false := by simp
      go_wp2_with (go_at_call 18; rw [← HW8.out]; refine (eq_Drift2 HOO.out.2 HOO.out.1 HPP.out.2 HPP.out.1 _).mono ?_; rintro e w9 ⟨rfl, hb9⟩; refine Hid.out ?_)
      refine hid ?_
      clear kz_W k_W_0 k_W_1
      clear HVW_7
      have hz9 := hb9.size
      have HB0_9 := hid (HB0_8.out.trans (hb9.mono HB0_8.out.size))
      have HB1_9 := hid (HB1_8.out.trans (hb9.mono HB1_8.out.size))
      have HB2_9 := hid (HB2_8.out.trans (hb9.mono HB2_8.out.size))
      have HB5_9 := hid (HB5_8.out.trans (hb9.mono HB5_8.out.size))
      have HB6_9 := hid (HB6_8.out.trans (hb9.mono HB6_8.out.size))
      have HOx0_9 := hid (own_below HOx0_8.out hb9)
      have HOx1_9 := hid (own_below HOx1_8.out hb9)
      have HVW_9 := hid ((hb9.block _ (by omega)).trans HVW_8.out)
      have HVG_9 := hid ((hb9.block _ (by omega)).trans HVG_8.out)
      clear HB0_8 HB1_8 HB2_8 HB5_8 HB6_8 HOx0_8 HOx1_8 HVW_8 HVG_8
      clear hb9
      go_wp2_with (go_at_call 15; refine (to_ints l hL _ _ (HFa.out.on HB0_9.out)).mono ?_; rintro e w10 ⟨rfl, hb10, ho10⟩; refine Hid.out ?_)
      refine hid ?_
      have hz10 := hb10.size
      have HB0_10 := hid (HB0_9.out.trans (hb10.mono HB0_9.out.size))
      have HB1_10 := hid (HB1_9.out.trans (hb10.mono HB1_9.out.size))
      have HB2_10 := hid (HB2_9.out.trans (hb10.mono HB2_9.out.size))
      have HB5_10 := hid (HB5_9.out.trans (hb10.mono HB5_9.out.size))
      have HB6_10 := hid (HB6_9.out.trans (hb10.mono HB6_9.out.size))
      have HOx0_10 := hid (own_below HOx0_9.out hb10)
      have HOx1_10 := hid (own_below HOx1_9.out hb10)
      have HVW_10 := hid ((hb10.block _ (by omega)).trans HVW_9.out)
      have HVG_10 := hid ((hb10.block _ (by omega)).trans HVG_9.out)
      clear HB0_9 HB1_9 HB2_9 HB5_9 HB6_9 HOx0_9 HOx1_9 HVW_9 HVG_9
      have HB10_10 : Hid (Below w10.heap.size w10 w10) := hid (Below.refl _ _)
      have HOt3_10 := hid ho10
      have HLt3 := hid (ho10.lt)
      clear hb10 ho10
      go_wp2_with (go_at_call 19; refine (eq_ints l (by omega) _ _ _ (row_in_own HOx0_10.out) (row_in_own HOt3_10.out)).mono ?_; rintro e w11 ⟨rfl, hb11⟩; refine Hid.out ?_)
      refine hid ?_
      have hz11 := hb11.size
      have HB0_11 := hid (HB0_10.out.trans (hb11.mono HB0_10.out.size))
      have HB1_11 := hid (HB1_10.out.trans (hb11.mono HB1_10.out.size))
      have HB2_11 := hid (HB2_10.out.trans (hb11.mono HB2_10.out.size))
      have HB5_11 := hid (HB5_10.out.trans (hb11.mono HB5_10.out.size))
      have HB6_11 := hid (HB6_10.out.trans (hb11.mono HB6_10.out.size))
      have HB10_11 := hid (HB10_10.out.trans (hb11.mono HB10_10.out.size))
      have HOx0_11 := hid (own_below HOx0_10.out hb11)
      have HOx1_11 := hid (own_below HOx1_10.out hb11)
      have HOt3_11 := hid (own_below HOt3_10.out hb11)
      have HVW_11 := hid ((hb11.block _ (by omega)).trans HVW_10.out)
      have HVG_11 := hid ((hb11.block _ (by omega)).trans HVG_10.out)
      clear HB0_10 HB1_10 HB2_10 HB5_10 HB6_10 HB10_10 HOx0_10 HOx1_10 HOt3_10 HVW_10 HVG_10
      clear hb11
      go_wp2_with (go_at_call 16; refine (to_fls m hM _ _ (HFb.out.on HB0_11.out)).mono ?_; rintro e w12 ⟨rfl, hb12, ho12⟩; refine Hid.out ?_)
      refine hid ?_
      have hz12 := hb12.size
      have HB0_12 := hid (HB0_11.out.trans (hb12.mono HB0_11.out.size))
      have HB1_12 := hid (HB1_11.out.trans (hb12.mono HB1_11.out.size))
      have HB2_12 := hid (HB2_11.out.trans (hb12.mono HB2_11.out.size))
      have HB5_12 := hid (HB5_11.out.trans (hb12.mono HB5_11.out.size))
      have HB6_12 := hid (HB6_11.out.trans (hb12.mono HB6_11.out.size))
      have HB10_12 := hid (HB10_11.out.trans (hb12.mono HB10_11.out.size))
      have HOx1_12 := hid (own_below HOx1_11.out hb12)
      have HVW_12 := hid ((hb12.block _ (by omega)).trans HVW_11.out)
      have HVG_12 := hid ((hb12.block _ (by omega)).trans HVG_11.out)
      clear HB0_11 HB1_11 HB2_11 HB5_11 HB6_11 HB10_11 HOx1_11 HVW_11 HVG_11
      have HB12_12 : Hid (Below w12.heap.size w12 w12) := hid (Below.refl _ _)
      have HOt4_12 := hid ho12
      have HLt4 := hid (ho12.lt)
      clear hb12 ho12
      go_wp2_with (go_at_call 20; refine (eq_fls m (by omega) _ _ _ (row_fl_own HOx1_12.out) (row_fl_own HOt4_12.out)).mono ?_; rintro e w13 ⟨rfl, hb13⟩; refine Hid.out ?_)
      refine hid ?_
      have hz13 := hb13.size
      have HB0_13 := hid (HB0_12.out.trans (hb13.mono HB0_12.out.size))
      have HB1_13 := hid (HB1_12.out.trans (hb13.mono HB1_12.out.size))
      have HB2_13 := hid (HB2_12.out.trans (hb13.mono HB2_12.out.size))
      have HB5_13 := hid (HB5_12.out.trans (hb13.mono HB5_12.out.size))
      have HB6_13 := hid (HB6_12.out.trans (hb13.mono HB6_12.out.size))
      have HB10_13 := hid (HB10_12.out.trans (hb13.mono HB10_12.out.size))
      have HB12_13 := hid (HB12_12.out.trans (hb13.mono HB12_12.out.size))
      have HOx1_13 := hid (own_below HOx1_12.out hb13)
      have HOt4_13 := hid (own_below HOt4_12.out hb13)
      have HVW_13 := hid ((hb13.block _ (by omega)).trans HVW_12.out)
      have HVG_13 := hid ((hb13.block _ (by omega)).trans HVG_12.out)
      clear HB0_12 HB1_12 HB2_12 HB5_12 HB6_12 HB10_12 HB12_12 HOx1_12 HOt4_12 HVW_12 HVG_12
      clear hb13
      go_wp2
      go_ret
      exact ⟨rfl, HB0_13.out⟩
    · go_enter Try.func4, Try.ntmps4
      go_wp2
      go_ret
      exact ⟨rfl, Below.refl _ _⟩
  · go_enter Try.func4, Try.ntmps4
    go_wp2
    go_ret
    exact ⟨rfl, Below.refl _ _⟩

end Go.Proofs.Ythpnlhbfginkjaa
