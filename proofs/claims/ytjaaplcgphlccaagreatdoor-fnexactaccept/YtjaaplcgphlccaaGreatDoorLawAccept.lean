/- The law on Accept, walked: it answers true. -/
import Derived.Test.YtjaaplcgphlccaaGreatDoorPackAcc
import Derived.Test.YtjaaplcgphlccaaGreatDoorAccSpec
import Derived.Test.YtjaaplcgphlccaaGreatDoorMkRelying
import Derived.Test.YtjaaplcgphlccaaGreatDoorStRelying
import Derived.Test.YtjaaplcgphlccaaGreatDoorPackKt
import Derived.Test.YtjaaplcgphlccaaGreatDoorTextKit
import Derived.Deep.RegionHeld3
namespace Go.Proofs.YtjaaplcgphlccaaGreatDoor
open Go.RowKit
open Go.Lib (hid)

theorem upto_le (d : Array (List UInt8)) : ∀ m, (Lib.compactUpTo d m).length ≤ m
  | 0 => by simp [Lib.compactUpTo]
  | m + 1 => by
    rw [Lib.compactUpTo_succ, List.length_append]
    have := upto_le d m
    split <;> simp <;> omega

theorem insR_len (ps : List (List UInt8)) (x : List UInt8) : (insR ps x).length ≤ ps.length + 1 := by
  unfold insR Lib.compact
  have h := upto_le ((ps ++ [x]).mergeSort fun x y => decide (x ≤ y)).toArray ((ps ++ [x]).mergeSort fun x y => decide (x ≤ y)).length
  have e : ((ps ++ [x]).mergeSort fun x y => decide (x ≤ y)).length = ps.length + 1 := by simp
  rw [e] at h
  rw [e]
  exact h

theorem acc_few (is ask ts : List (List UInt8)) (x name : ByteArray) (boots : Int) (t : ByteArray) : (ask1 is ask ts).length ≤ is.length ∧ (accO2 is ask ts x name boots t).length ≤ ask.length ∧ (accO3 is ask ts x name boots t).length ≤ ts.length + 1 := by
  unfold ask1 accO2 accO3 acc2 acc3
  split
  · refine ⟨Nat.le_refl _, ?_, ?_⟩
    · split
      · exact lessR_len _ _
      · exact Nat.le_refl _
    · split
      · exact insR_len _ _
      · omega
  · exact ⟨Nat.zero_le _, Nat.zero_le _, Nat.zero_le _⟩

theorem marks_textsA {k n : Nat} {base : Nat} {w : World} {v : Value} (h : w.ownsRow base 9 1 v n (strs (marks k n))) : TextsAt w v (marks k n) := texts_of (by rw [marks_len]; exact h)

set_option maxRecDepth 20000 in
set_option maxHeartbeats 4000000 in
theorem law_accept (is ask ts : List (List UInt8)) (s1 : ∀ p ∈ is, p.length ≤ 9223372036854775807) (m1 : is.length ≤ 9223372036854775807) (s2 : ∀ p ∈ ask, p.length ≤ 9223372036854775807) (m2 : ask.length ≤ 9223372036854775807) (s3 : ∀ p ∈ ts, p.length ≤ 9223372036854775807) (m3 : ts.length ≤ 9223372036854775807) (t x name : ByteArray) (boots : Int) (a1 a2 a3 : Value) (w : World) (h1 : ArgAt w a1 is) (h2 : ArgAt w a2 ask) (h3 : ArgAt w a3 ts) (hT : Tab w) (hG : 0 < w.heap.size) (hP : Lib.TabIs Tryz.prog w "internal/strconv.uint64pow10" .u64 Lib.pow10Tab) :
    Calls Tryz.prog 3 #[.agg #[a1, a2, a3], .string t, .string x, .string name, .int .i64 boots] w fun e w' => e = .returned (.bool true) ∧ Below w.heap.size w w' := by
  have HFa := hid h1
  have HFb := hid h2
  have HFc := hid h3
  have HTAB := hid hT
  have HPW := hid hP
  have CZ := hid (fun W x1 x2 x3 => sz_Relying is ask ts s1 m1 s2 m2 s3 m3 1048576 (Nat.le_refl _) a1 a2 a3 W x1 x2 x3)
  have HS1 := hid s1
  have HS2 := hid s2
  have HS3 := hid s3
  obtain ⟨p0, c0, rfl, t1⟩ := h1
  obtain ⟨q0, d0, rfl, t2⟩ := h2
  obtain ⟨u0, v0, rfl, t3⟩ := h3
  clear t1 t2 t3 hT hP s1 s2 s3
  by_cases hgt : t.size ≤ 1048576
  · have hgt2 : ¬ (t.size : Int) > 1048576 := by omega
    by_cases hgd : x.size ≤ 1048576
    · have hgd2 : ¬ (x.size : Int) > 1048576 := by omega
      by_cases hgn : name.size ≤ 1048576
      · have hgn2 : ¬ (name.size : Int) > 1048576 := by omega
        have HB0_0 : Hid (Below w.heap.size w w) := hid (Below.refl _ _)
        have hz0 : w.heap.size ≤ w.heap.size := Nat.le_refl _
        obtain ⟨w1, hw1⟩ : ∃ W, W = w.alloc (.cells #[.slice p0 is.length c0, .slice q0 ask.length d0, .slice u0 ts.length v0] 24) := ⟨_, rfl⟩
        have hb1 : Below w.heap.size w w1 := by rw [hw1]; exact (Below.refl _ _).alloc (Nat.le_refl _) _
        have hz1 : w.heap.size < w1.heap.size := by rw [hw1]; simp
        have HVA_1 : Hid (w1.heap[w.heap.size]? = some (.cells #[.slice p0 is.length c0, .slice q0 ask.length d0, .slice u0 ts.length v0] 24)) := hid (by rw [hw1]; exact heap_alloc_new _ _)
        have HW1 := hid hw1
        have HB0_1 := hid (HB0_0.out.trans (hb1.mono HB0_0.out.size))
        clear hw1 hb1
        go_enter Tryz.func3, Tryz.ntmps3
        go_wp2_with (go_at_call 5; rw [← HW1.out]; refine (CZ.out _ (HFa.out.on HB0_1.out) (HFb.out.on HB0_1.out) (HFc.out.on HB0_1.out)).mono ?_; rintro e w2 ⟨⟨r, rfl, hr⟩, hb2⟩; refine Hid.out ?_)
        refine hid ?_
        have hz2 := hb2.size
        have HB0_2 := hid (HB0_1.out.trans (hb2.mono HB0_1.out.size))
        have HVA_2 := hid ((hb2.block _ (by omega)).trans HVA_1.out)
        clear HB0_1 HVA_1
        clear hb2
        rcases hr with hr | ⟨hr, htot⟩
        · go_wp2
          go_ret
          exact ⟨rfl, HB0_2.out⟩
        · skip
          have hr2 : ¬ r < 0 := by omega
          have l1 : is.length ≤ 1048576 := by omega
          have l2 : ask.length ≤ 1048576 := by omega
          have l3 : ts.length ≤ 1048576 := by omega
          have e1 : ∀ p ∈ is, p.length ≤ 1048576 := fun p hp => by have := total_mem hp; omega
          have e2 : ∀ p ∈ ask, p.length ≤ 1048576 := fun p hp => by have := total_mem hp; omega
          have e3 : ∀ p ∈ ts, p.length ≤ 1048576 := fun p hp => by have := total_mem hp; omega
          have hxm : x.size ≤ maxLen := by unfold maxLen; omega
          obtain ⟨k1, k2, k3⟩ := acc_few is ask ts x name boots t
          have TA := hid (fun W x1 x2 x3 => to_Relying is ask ts l1 l2 l3 (.slice p0 is.length c0) (.slice q0 ask.length d0) (.slice u0 ts.length v0) W x1 x2 x3)
          have CS := hid (fun a b c W x1 x2 x3 => acc_spec is ask ts l1 e1 l2 e2 l3 e3 t x name boots a b c W x1 x2 x3)
          have CI := hid (fun a b c W x1 x2 x3 hT hG hP => acc_impl is ask ts l1 HS1.out l2 HS2.out l3 HS3.out t x name boots hxm a b c W x1 x2 x3 hT hG hP)
          have CQ := hid (fun a1 b1 a2 b2 a3 b3 W x1 x2 x3 i1 i2 i3 => eq_Relying is ask ts (by omega) (by omega) (by omega) a1 b1 a2 b2 a3 b3 W x1 x2 x3 i1 i2 i3)
          unfold AccPost at CS CI
          generalize ask1 is ask ts = O1 at *
          generalize accO2 is ask ts x name boots t = O2 at *
          generalize accO3 is ask ts x name boots t = O3 at *
          generalize accC is ask ts x name boots t = cc at *
          have hcc : (cc != cc) = false := by simp
          have hmm : ¬ ((1 + is.length + ask.length + ts.length : Nat) : Int) < 0 := by omega
          have hmo : ¬ ((1 + O1.length + O2.length + O3.length : Nat) : Int) < 0 := by omega
          clear htot hr e1 e2 e3 hxm
          have k_A_0 := (cell_of_row _ _ 0 _ _ _ HVA_2.out).trans rfl
          have k_A_1 := (cell_of_row _ _ 1 _ _ _ HVA_2.out).trans rfl
          have k_A_2 := (cell_of_row _ _ 2 _ _ _ HVA_2.out).trans rfl
          go_wp2_with (go_at_call 7; refine (TA.out _ (HFa.out.on HB0_2.out) (HFb.out.on HB0_2.out) (HFc.out.on HB0_2.out)).mono ?_; rintro e w3 ⟨b1, b2, b3, rfl, hb3, f1, f2, f3, d12, d13, d23⟩; refine Hid.out ?_)
          refine hid ?_
          clear k_A_0 k_A_1 k_A_2
          have hz3 := hb3.size
          have HB0_3 := hid (HB0_2.out.trans (hb3.mono HB0_2.out.size))
          have HVA_3 := hid ((hb3.block _ (by omega)).trans HVA_2.out)
          clear HB0_2 HVA_2
          have HB3_3 : Hid (Below w3.heap.size w3 w3) := hid (Below.refl _ _)
          have HOu1_3 := hid f1
          have HLu1 := hid (f1.lt)
          have HOu2_3 := hid f2
          have HLu2 := hid (f2.lt)
          have HOu3_3 := hid f3
          have HLu3 := hid (f3.lt)
          have HAPu := hid (And.intro (ApartV.of_lt d12) (And.intro (ApartV.of_lt d13) (ApartV.of_lt d23)))
          obtain ⟨p3, c3, rfl⟩ := touch_slice HOu1_3.out
          obtain ⟨q3, d3, rfl⟩ := touch_slice HOu2_3.out
          obtain ⟨u3, v3, rfl⟩ := touch_slice HOu3_3.out
          clear d12 d13 d23
          clear hb3 f1 f2 f3
          go_wp2_with (go_at_call 6; refine (CS.out _ _ _ _ (texts_of HOu1_3.out) (texts_of HOu2_3.out) (texts_of HOu3_3.out)).mono ?_; rintro e w4 ⟨b1, b2, b3, rfl, hb4, ⟨f1, f2, f3, d12, d13, d23⟩⟩; refine Hid.out ?_)
          refine hid ?_
          have hz4 := hb4.size
          have HB0_4 := hid (HB0_3.out.trans (hb4.mono HB0_3.out.size))
          have HB3_4 := hid (HB3_3.out.trans (hb4.mono HB3_3.out.size))
          have HOu1_4 := hid (own_below HOu1_3.out hb4)
          have HOu2_4 := hid (own_below HOu2_3.out hb4)
          have HOu3_4 := hid (own_below HOu3_3.out hb4)
          have HVA_4 := hid ((hb4.block _ (by omega)).trans HVA_3.out)
          clear HB0_3 HB3_3 HOu1_3 HOu2_3 HOu3_3 HVA_3
          have HB4_4 : Hid (Below w4.heap.size w4 w4) := hid (Below.refl _ _)
          have HOw1_4 := hid f1
          have HLw1 := hid (f1.lt)
          have HOw2_4 := hid f2
          have HLw2 := hid (f2.lt)
          have HOw3_4 := hid f3
          have HLw3 := hid (f3.lt)
          have HAPw := hid (And.intro d12 (And.intro d13 d23))
          obtain ⟨p4, c4, rfl⟩ := touch_slice HOw1_4.out
          obtain ⟨q4, d4, rfl⟩ := touch_slice HOw2_4.out
          obtain ⟨u4, v4, rfl⟩ := touch_slice HOw3_4.out
          clear d12 d13 d23
          clear hb4 f1 f2 f3
          obtain ⟨w5, hw5⟩ : ∃ W, W = w4.alloc (.cells #[.slice p4 O1.length c4, .slice q4 O2.length d4, .slice u4 O3.length v4] 26) := ⟨_, rfl⟩
          have hb5 : Below w4.heap.size w4 w5 := by rw [hw5]; exact (Below.refl _ _).alloc (Nat.le_refl _) _
          have hz5 : w4.heap.size < w5.heap.size := by rw [hw5]; simp
          have HVW_5 : Hid (w5.heap[w4.heap.size]? = some (.cells #[.slice p4 O1.length c4, .slice q4 O2.length d4, .slice u4 O3.length v4] 26)) := hid (by rw [hw5]; exact heap_alloc_new _ _)
          have HW5 := hid hw5
          have HB0_5 := hid (HB0_4.out.trans (hb5.mono HB0_4.out.size))
          have HB3_5 := hid (HB3_4.out.trans (hb5.mono HB3_4.out.size))
          have HB4_5 := hid (HB4_4.out.trans (hb5.mono HB4_4.out.size))
          have HOu1_5 := hid (own_below HOu1_4.out hb5)
          have HOu2_5 := hid (own_below HOu2_4.out hb5)
          have HOu3_5 := hid (own_below HOu3_4.out hb5)
          have HOw1_5 := hid (own_below HOw1_4.out hb5)
          have HOw2_5 := hid (own_below HOw2_4.out hb5)
          have HOw3_5 := hid (own_below HOw3_4.out hb5)
          have HVA_5 := hid ((hb5.block _ (by omega)).trans HVA_4.out)
          clear HB0_4 HB3_4 HB4_4 HOu1_4 HOu2_4 HOu3_4 HOw1_4 HOw2_4 HOw3_4
          clear hw5 hb5
          have kz_A : w.heap.size < w4.heap.size := by omega
          have k_A_0 := (cell_of_row _ _ 0 _ _ _ HVA_4.out).trans rfl
          have k_A_1 := (cell_of_row _ _ 1 _ _ _ HVA_4.out).trans rfl
          have k_A_2 := (cell_of_row _ _ 2 _ _ _ HVA_4.out).trans rfl
          go_wp2_with (go_at_call 7; rw [← HW5.out]; refine (TA.out _ (HFa.out.on HB0_5.out) (HFb.out.on HB0_5.out) (HFc.out.on HB0_5.out)).mono ?_; rintro e w6 ⟨b1, b2, b3, rfl, hb6, f1, f2, f3, d12, d13, d23⟩; refine Hid.out ?_)
          refine hid ?_
          clear kz_A k_A_0 k_A_1 k_A_2
          clear HVA_4
          have hz6 := hb6.size
          have HB0_6 := hid (HB0_5.out.trans (hb6.mono HB0_5.out.size))
          have HB3_6 := hid (HB3_5.out.trans (hb6.mono HB3_5.out.size))
          have HB4_6 := hid (HB4_5.out.trans (hb6.mono HB4_5.out.size))
          have HOw1_6 := hid (own_below HOw1_5.out hb6)
          have HOw2_6 := hid (own_below HOw2_5.out hb6)
          have HOw3_6 := hid (own_below HOw3_5.out hb6)
          have HVA_6 := hid ((hb6.block _ (by omega)).trans HVA_5.out)
          have HVW_6 := hid ((hb6.block _ (by omega)).trans HVW_5.out)
          clear HB0_5 HB3_5 HB4_5 HOw1_5 HOw2_5 HOw3_5 HVA_5 HVW_5
          have HB6_6 : Hid (Below w6.heap.size w6 w6) := hid (Below.refl _ _)
          have HOx1_6 := hid f1
          have HLx1 := hid (f1.lt)
          have HOx2_6 := hid f2
          have HLx2 := hid (f2.lt)
          have HOx3_6 := hid f3
          have HLx3 := hid (f3.lt)
          have HAPx := hid (And.intro (ApartV.of_lt d12) (And.intro (ApartV.of_lt d13) (ApartV.of_lt d23)))
          obtain ⟨p6, c6, rfl⟩ := touch_slice HOx1_6.out
          obtain ⟨q6, d6, rfl⟩ := touch_slice HOx2_6.out
          obtain ⟨u6, v6, rfl⟩ := touch_slice HOx3_6.out
          clear d12 d13 d23
          clear hb6 f1 f2 f3
          obtain ⟨w7, hw7⟩ : ∃ W, W = w6.alloc (.cells #[.slice p6 is.length c6, .slice q6 ask.length d6, .slice u6 ts.length v6] 26) := ⟨_, rfl⟩
          have hb7 : Below w6.heap.size w6 w7 := by rw [hw7]; exact (Below.refl _ _).alloc (Nat.le_refl _) _
          have hz7 : w6.heap.size < w7.heap.size := by rw [hw7]; simp
          have HVX_7 : Hid (w7.heap[w6.heap.size]? = some (.cells #[.slice p6 is.length c6, .slice q6 ask.length d6, .slice u6 ts.length v6] 26)) := hid (by rw [hw7]; exact heap_alloc_new _ _)
          have HW7 := hid hw7
          have HB0_7 := hid (HB0_6.out.trans (hb7.mono HB0_6.out.size))
          have HB3_7 := hid (HB3_6.out.trans (hb7.mono HB3_6.out.size))
          have HB4_7 := hid (HB4_6.out.trans (hb7.mono HB4_6.out.size))
          have HB6_7 := hid (HB6_6.out.trans (hb7.mono HB6_6.out.size))
          have HOw1_7 := hid (own_below HOw1_6.out hb7)
          have HOw2_7 := hid (own_below HOw2_6.out hb7)
          have HOw3_7 := hid (own_below HOw3_6.out hb7)
          have HOx1_7 := hid (own_below HOx1_6.out hb7)
          have HOx2_7 := hid (own_below HOx2_6.out hb7)
          have HOx3_7 := hid (own_below HOx3_6.out hb7)
          have HVA_7 := hid ((hb7.block _ (by omega)).trans HVA_6.out)
          have HVW_7 := hid ((hb7.block _ (by omega)).trans HVW_6.out)
          clear HB0_6 HB3_6 HB4_6 HB6_6 HOw1_6 HOw2_6 HOw3_6 HOx1_6 HOx2_6 HOx3_6
          clear hw7 hb7
          go_wp2_with (go_at_call 8; rw [← HW7.out]; refine (CI.out _ _ _ _ (texts_of HOx1_7.out) (texts_of HOx2_7.out) (texts_of HOx3_7.out) (tab_on HTAB.out hG HB0_7.out) (Nat.lt_of_lt_of_le hG HB0_7.out.size) (Num.tab_stays HB0_7.out HPW.out)).mono ?_; rintro e w8 ⟨b1, b2, b3, rfl, hb8, ⟨f1, f2, f3, d12, d13, d23⟩⟩; refine Hid.out ?_)
          refine hid ?_
          clear HVA_6 HVW_6
          have hz8 := hb8.size
          have HB0_8 := hid (HB0_7.out.trans (hb8.mono HB0_7.out.size))
          have HB3_8 := hid (HB3_7.out.trans (hb8.mono HB3_7.out.size))
          have HB4_8 := hid (HB4_7.out.trans (hb8.mono HB4_7.out.size))
          have HB6_8 := hid (HB6_7.out.trans (hb8.mono HB6_7.out.size))
          have HOw1_8 := hid (own_below HOw1_7.out hb8)
          have HOw2_8 := hid (own_below HOw2_7.out hb8)
          have HOw3_8 := hid (own_below HOw3_7.out hb8)
          have HOx1_8 := hid (own_below HOx1_7.out hb8)
          have HOx2_8 := hid (own_below HOx2_7.out hb8)
          have HOx3_8 := hid (own_below HOx3_7.out hb8)
          have HVA_8 := hid ((hb8.block _ (by omega)).trans HVA_7.out)
          have HVW_8 := hid ((hb8.block _ (by omega)).trans HVW_7.out)
          have HVX_8 := hid ((hb8.block _ (by omega)).trans HVX_7.out)
          clear HB0_7 HB3_7 HB4_7 HB6_7 HOw1_7 HOw2_7 HOw3_7 HOx1_7 HOx2_7 HOx3_7 HVA_7 HVW_7 HVX_7
          have HB8_8 : Hid (Below w8.heap.size w8 w8) := hid (Below.refl _ _)
          have HOg1_8 := hid f1
          have HLg1 := hid (f1.lt)
          have HOg2_8 := hid f2
          have HLg2 := hid (f2.lt)
          have HOg3_8 := hid f3
          have HLg3 := hid (f3.lt)
          have HAPg := hid (And.intro d12 (And.intro d13 d23))
          obtain ⟨p8, c8, rfl⟩ := touch_slice HOg1_8.out
          obtain ⟨q8, d8, rfl⟩ := touch_slice HOg2_8.out
          obtain ⟨u8, v8, rfl⟩ := touch_slice HOg3_8.out
          clear d12 d13 d23
          clear hb8 f1 f2 f3
          obtain ⟨w9, hw9⟩ : ∃ W, W = w8.alloc (.cells #[.slice p8 O1.length c8, .slice q8 O2.length d8, .slice u8 O3.length v8] 26) := ⟨_, rfl⟩
          have hb9 : Below w8.heap.size w8 w9 := by rw [hw9]; exact (Below.refl _ _).alloc (Nat.le_refl _) _
          have hz9 : w8.heap.size < w9.heap.size := by rw [hw9]; simp
          have HVG_9 : Hid (w9.heap[w8.heap.size]? = some (.cells #[.slice p8 O1.length c8, .slice q8 O2.length d8, .slice u8 O3.length v8] 26)) := hid (by rw [hw9]; exact heap_alloc_new _ _)
          have HW9 := hid hw9
          have HB0_9 := hid (HB0_8.out.trans (hb9.mono HB0_8.out.size))
          have HB3_9 := hid (HB3_8.out.trans (hb9.mono HB3_8.out.size))
          have HB4_9 := hid (HB4_8.out.trans (hb9.mono HB4_8.out.size))
          have HB6_9 := hid (HB6_8.out.trans (hb9.mono HB6_8.out.size))
          have HB8_9 := hid (HB8_8.out.trans (hb9.mono HB8_8.out.size))
          have HOw1_9 := hid (own_below HOw1_8.out hb9)
          have HOw2_9 := hid (own_below HOw2_8.out hb9)
          have HOw3_9 := hid (own_below HOw3_8.out hb9)
          have HOx1_9 := hid (own_below HOx1_8.out hb9)
          have HOx2_9 := hid (own_below HOx2_8.out hb9)
          have HOx3_9 := hid (own_below HOx3_8.out hb9)
          have HOg1_9 := hid (own_below HOg1_8.out hb9)
          have HOg2_9 := hid (own_below HOg2_8.out hb9)
          have HOg3_9 := hid (own_below HOg3_8.out hb9)
          have HVA_9 := hid ((hb9.block _ (by omega)).trans HVA_8.out)
          have HVW_9 := hid ((hb9.block _ (by omega)).trans HVW_8.out)
          have HVX_9 := hid ((hb9.block _ (by omega)).trans HVX_8.out)
          clear HB0_8 HB3_8 HB4_8 HB6_8 HB8_8 HOw1_8 HOw2_8 HOw3_8 HOx1_8 HOx2_8 HOx3_8 HOg1_8 HOg2_8 HOg3_8
          clear hw9 hb9
          have kz_W : w4.heap.size < w8.heap.size := by omega
          have k_W_0 := (cell_of_row _ _ 0 _ _ _ HVW_8.out).trans rfl
          have k_W_1 := (cell_of_row _ _ 1 _ _ _ HVW_8.out).trans rfl
          have k_W_2 := (cell_of_row _ _ 2 _ _ _ HVW_8.out).trans rfl
          go_wp2_with (go_at_call 9; rw [← HW9.out]; refine (eq_Relying O1 O2 O3 (by omega) (by omega) (by omega) _ _ _ _ _ _ _ (texts_of HOg1_9.out) (texts_of HOg2_9.out) (texts_of HOg3_9.out) (texts_of HOw1_9.out) (texts_of HOw2_9.out) (texts_of HOw3_9.out)).mono ?_; rintro e w10 ⟨rfl, hb10⟩; refine Hid.out ?_)
          refine hid ?_
          clear kz_W k_W_0 k_W_1 k_W_2
          clear HVA_8 HVW_8 HVX_8
          have hz10 := hb10.size
          have HB0_10 := hid (HB0_9.out.trans (hb10.mono HB0_9.out.size))
          have HB3_10 := hid (HB3_9.out.trans (hb10.mono HB3_9.out.size))
          have HB4_10 := hid (HB4_9.out.trans (hb10.mono HB4_9.out.size))
          have HB6_10 := hid (HB6_9.out.trans (hb10.mono HB6_9.out.size))
          have HB8_10 := hid (HB8_9.out.trans (hb10.mono HB8_9.out.size))
          have HOw1_10 := hid (own_below HOw1_9.out hb10)
          have HOw2_10 := hid (own_below HOw2_9.out hb10)
          have HOw3_10 := hid (own_below HOw3_9.out hb10)
          have HOx1_10 := hid (own_below HOx1_9.out hb10)
          have HOx2_10 := hid (own_below HOx2_9.out hb10)
          have HOx3_10 := hid (own_below HOx3_9.out hb10)
          have HOg1_10 := hid (own_below HOg1_9.out hb10)
          have HOg2_10 := hid (own_below HOg2_9.out hb10)
          have HOg3_10 := hid (own_below HOg3_9.out hb10)
          have HVA_10 := hid ((hb10.block _ (by omega)).trans HVA_9.out)
          have HVW_10 := hid ((hb10.block _ (by omega)).trans HVW_9.out)
          have HVX_10 := hid ((hb10.block _ (by omega)).trans HVX_9.out)
          have HVG_10 := hid ((hb10.block _ (by omega)).trans HVG_9.out)
          clear HB0_9 HB3_9 HB4_9 HB6_9 HB8_9 HOw1_9 HOw2_9 HOw3_9 HOx1_9 HOx2_9 HOx3_9 HOg1_9 HOg2_9 HOg3_9 HVA_9 HVW_9 HVX_9 HVG_9
          clear hb10
          have CT := hid (fun W (h : Below w10.heap.size w10 W) => TA.out W (HFa.out.on (HB0_10.out.trans (h.mono HB0_10.out.size))) (HFb.out.on (HB0_10.out.trans (h.mono HB0_10.out.size))) (HFc.out.on (HB0_10.out.trans (h.mono HB0_10.out.size))))
          have CE := hid (fun b1 b2 b3 W (h : Below w10.heap.size w10 W) (i1 : TextsAt W b1 is) (i2 : TextsAt W b2 ask) (i3 : TextsAt W b3 ts) => CQ.out _ b1 _ b2 _ b3 W ((texts_of HOx1_10.out).on h) ((texts_of HOx2_10.out).on h) ((texts_of HOx3_10.out).on h) i1 i2 i3)
          have k_X_0 : ∀ W : World, Below w10.heap.size w10 W → W.cell? ⟨_, 0, none⟩ = some (.slice p6 is.length c6) := fun W hW => (cell_of_row _ _ 0 _ _ _ ((hW.block _ (by omega)).trans HVX_10.out)).trans rfl
          have k_X_1 : ∀ W : World, Below w10.heap.size w10 W → W.cell? ⟨_, 1, none⟩ = some (.slice q6 ask.length d6) := fun W hW => (cell_of_row _ _ 1 _ _ _ ((hW.block _ (by omega)).trans HVX_10.out)).trans rfl
          have k_X_2 : ∀ W : World, Below w10.heap.size w10 W → W.cell? ⟨_, 2, none⟩ = some (.slice u6 ts.length v6) := fun W hW => (cell_of_row _ _ 2 _ _ _ ((hW.block _ (by omega)).trans HVX_10.out)).trans rfl
          have k_A_0 : ∀ W : World, Below w10.heap.size w10 W → W.cell? ⟨_, 0, none⟩ = some (.slice p0 is.length c0) := fun W hW => (cell_of_row _ _ 0 _ _ _ ((hW.block _ (by omega)).trans HVA_10.out)).trans rfl
          have k_A_1 : ∀ W : World, Below w10.heap.size w10 W → W.cell? ⟨_, 1, none⟩ = some (.slice q0 ask.length d0) := fun W hW => (cell_of_row _ _ 1 _ _ _ ((hW.block _ (by omega)).trans HVA_10.out)).trans rfl
          have k_A_2 : ∀ W : World, Below w10.heap.size w10 W → W.cell? ⟨_, 2, none⟩ = some (.slice u0 ts.length v0) := fun W hW => (cell_of_row _ _ 2 _ _ _ ((hW.block _ (by omega)).trans HVA_10.out)).trans rfl
          go_wp2
          go_region_held3 (fun w' => Below w10.heap.size w10 w') (first | with_reducible assumption | exact Below.drew (Below.refl _ _) | exact st_below (by assumption) (by simp) (by assumption)) ((first | (go_at_call 7; refine (CT.out _ (by assumption)).mono ?_; rintro e x1 ⟨g1, g2, g3, rfl, hy1, hr1, hr2, hr3, _⟩) | (go_at_call 9; refine (CE.out _ _ _ _ (by assumption) (texts_of hr1) (texts_of hr2) (texts_of hr3)).mono ?_; rintro e x2 ⟨rfl, hy2⟩) | (fail "no arm")))
          rename_i hS
          have hb11 := hS
          clear k_X_0 k_X_1 k_X_2 k_A_0 k_A_1 k_A_2
          generalize x2 = w11 at *
          clear hS
          have hz11 := hb11.size
          have HB0_11 := hid (HB0_10.out.trans (hb11.mono HB0_10.out.size))
          have HB3_11 := hid (HB3_10.out.trans (hb11.mono HB3_10.out.size))
          have HB4_11 := hid (HB4_10.out.trans (hb11.mono HB4_10.out.size))
          have HB6_11 := hid (HB6_10.out.trans (hb11.mono HB6_10.out.size))
          have HB8_11 := hid (HB8_10.out.trans (hb11.mono HB8_10.out.size))
          have HOw1_11 := hid (own_below HOw1_10.out hb11)
          have HOw2_11 := hid (own_below HOw2_10.out hb11)
          have HOw3_11 := hid (own_below HOw3_10.out hb11)
          have HOx1_11 := hid (own_below HOx1_10.out hb11)
          have HOx2_11 := hid (own_below HOx2_10.out hb11)
          have HOx3_11 := hid (own_below HOx3_10.out hb11)
          have HOg1_11 := hid (own_below HOg1_10.out hb11)
          have HOg2_11 := hid (own_below HOg2_10.out hb11)
          have HOg3_11 := hid (own_below HOg3_10.out hb11)
          have HVA_11 := hid ((hb11.block _ (by omega)).trans HVA_10.out)
          have HVW_11 := hid ((hb11.block _ (by omega)).trans HVW_10.out)
          have HVX_11 := hid ((hb11.block _ (by omega)).trans HVX_10.out)
          have HVG_11 := hid ((hb11.block _ (by omega)).trans HVG_10.out)
          clear HB0_10 HB3_10 HB4_10 HB6_10 HB8_10 HOw1_10 HOw2_10 HOw3_10 HOx1_10 HOx2_10 HOx3_10 HOg1_10 HOg2_10 HOg3_10 HVA_10 HVW_10 HVX_10 HVG_10
          clear hb11
          clear hy1 hr1 hr2 hr3 hy2 CT CE
          have k_X_0 := (cell_of_row _ _ 0 _ _ _ HVX_11.out).trans rfl
          have k_X_1 := (cell_of_row _ _ 1 _ _ _ HVX_11.out).trans rfl
          have k_X_2 := (cell_of_row _ _ 2 _ _ _ HVX_11.out).trans rfl
          go_wp2_with (go_at_call 10; refine (mark_Relying is ask ts 1 (by omega) (by omega) _ _ _ _ _ _ _ HOx1_11.out HOx2_11.out HOx3_11.out HAPx.out.1 HAPx.out.2.1 HAPx.out.2.2).mono ?_; rintro e w12 ⟨rfl, ht12, ho0_12, ho1_12, ho2_12⟩; refine Hid.out ?_)
          refine hid ?_
          clear k_X_0 k_X_1 k_X_2
          have hG12 : GrownIn w11 w12 w5.heap.size w6.heap.size := within_three ht12 HLx1.out HLx2.out HLx3.out
          have hz12 := hG12.size
          have HB0_12 := hid (HB0_11.out.trans (hG12.to HB0_11.out.size (by omega)))
          have HB3_12 := hid (HB3_11.out.trans (hG12.to HB3_11.out.size (by omega)))
          have HB4_12 := hid (HB4_11.out.trans (hG12.to HB4_11.out.size (by omega)))
          have HOw1_12 := hid (hG12.row HOw1_11.out (fun k hk => by have := HLw1.out k hk; omega))
          have HOw2_12 := hid (hG12.row HOw2_11.out (fun k hk => by have := HLw2.out k hk; omega))
          have HOw3_12 := hid (hG12.row HOw3_11.out (fun k hk => by have := HLw3.out k hk; omega))
          have HOg1_12 := hid (hG12.row HOg1_11.out (fun k hk => by have := HLg1.out k hk; omega))
          have HOg2_12 := hid (hG12.row HOg2_11.out (fun k hk => by have := HLg2.out k hk; omega))
          have HOg3_12 := hid (hG12.row HOg3_11.out (fun k hk => by have := HLg3.out k hk; omega))
          have HOx1_12 := hid ho0_12
          have HOx2_12 := hid ho1_12
          have HOx3_12 := hid ho2_12
          have HVA_12 := hid ((hG12.block _ (by omega) (by omega)).trans HVA_11.out)
          have HVW_12 := hid ((hG12.block _ (by omega) (by omega)).trans HVW_11.out)
          have HVX_12 := hid ((hG12.block _ (by omega) (by omega)).trans HVX_11.out)
          have HVG_12 := hid ((hG12.block _ (by omega) (by omega)).trans HVG_11.out)
          clear HB0_11 HB3_11 HB4_11 HB6_11 HB8_11 HOw1_11 HOw2_11 HOw3_11 HOx1_11 HOx2_11 HOx3_11 HOg1_11 HOg2_11 HOg3_11 HVA_11 HVW_11 HVX_11 HVG_11
          clear ht12 hG12 ho0_12 ho1_12 ho2_12
          have k_G_0 := (cell_of_row _ _ 0 _ _ _ HVG_12.out).trans rfl
          have k_G_1 := (cell_of_row _ _ 1 _ _ _ HVG_12.out).trans rfl
          have k_G_2 := (cell_of_row _ _ 2 _ _ _ HVG_12.out).trans rfl
          have k_W_0 := (cell_of_row _ _ 0 _ _ _ HVW_12.out).trans rfl
          have k_W_1 := (cell_of_row _ _ 1 _ _ _ HVW_12.out).trans rfl
          have k_W_2 := (cell_of_row _ _ 2 _ _ _ HVW_12.out).trans rfl
          go_wp2_with (go_at_call 9; refine (eq_Relying O1 O2 O3 (by omega) (by omega) (by omega) _ _ _ _ _ _ _ (texts_of HOg1_12.out) (texts_of HOg2_12.out) (texts_of HOg3_12.out) (texts_of HOw1_12.out) (texts_of HOw2_12.out) (texts_of HOw3_12.out)).mono ?_; rintro e w13 ⟨rfl, hb13⟩; refine Hid.out ?_)
          refine hid ?_
          clear k_G_0 k_G_1 k_G_2 k_W_0 k_W_1 k_W_2
          have hz13 := hb13.size
          have HB0_13 := hid (HB0_12.out.trans (hb13.mono HB0_12.out.size))
          have HB3_13 := hid (HB3_12.out.trans (hb13.mono HB3_12.out.size))
          have HB4_13 := hid (HB4_12.out.trans (hb13.mono HB4_12.out.size))
          have HOw1_13 := hid (own_below HOw1_12.out hb13)
          have HOw2_13 := hid (own_below HOw2_12.out hb13)
          have HOw3_13 := hid (own_below HOw3_12.out hb13)
          have HOg1_13 := hid (own_below HOg1_12.out hb13)
          have HOg2_13 := hid (own_below HOg2_12.out hb13)
          have HOg3_13 := hid (own_below HOg3_12.out hb13)
          have HVA_13 := hid ((hb13.block _ (by omega)).trans HVA_12.out)
          have HVW_13 := hid ((hb13.block _ (by omega)).trans HVW_12.out)
          have HVG_13 := hid ((hb13.block _ (by omega)).trans HVG_12.out)
          clear HB0_12 HB3_12 HB4_12 HOw1_12 HOw2_12 HOw3_12 HOg1_12 HOg2_12 HOg3_12 HVA_12 HVW_12 HVG_12
          clear hb13
          have k_G_0 := (cell_of_row _ _ 0 _ _ _ HVG_13.out).trans rfl
          have k_G_1 := (cell_of_row _ _ 1 _ _ _ HVG_13.out).trans rfl
          have k_G_2 := (cell_of_row _ _ 2 _ _ _ HVG_13.out).trans rfl
          go_wp2_with (go_at_call 10; refine (mark_Relying O1 O2 O3 1 (by omega) (by omega) _ _ _ _ _ _ _ HOg1_13.out HOg2_13.out HOg3_13.out HAPg.out.1 HAPg.out.2.1 HAPg.out.2.2).mono ?_; rintro e w14 ⟨rfl, ht14, ho0_14, ho1_14, ho2_14⟩; refine Hid.out ?_)
          refine hid ?_
          clear k_G_0 k_G_1 k_G_2
          have hG14 : GrownIn w13 w14 w7.heap.size w8.heap.size := within_three ht14 HLg1.out HLg2.out HLg3.out
          have hz14 := hG14.size
          have HB0_14 := hid (HB0_13.out.trans (hG14.to HB0_13.out.size (by omega)))
          have HB3_14 := hid (HB3_13.out.trans (hG14.to HB3_13.out.size (by omega)))
          have HB4_14 := hid (HB4_13.out.trans (hG14.to HB4_13.out.size (by omega)))
          have HOw1_14 := hid (hG14.row HOw1_13.out (fun k hk => by have := HLw1.out k hk; omega))
          have HOw2_14 := hid (hG14.row HOw2_13.out (fun k hk => by have := HLw2.out k hk; omega))
          have HOw3_14 := hid (hG14.row HOw3_13.out (fun k hk => by have := HLw3.out k hk; omega))
          have HOg1_14 := hid ho0_14
          have HOg2_14 := hid ho1_14
          have HOg3_14 := hid ho2_14
          have HVA_14 := hid ((hG14.block _ (by omega) (by omega)).trans HVA_13.out)
          have HVW_14 := hid ((hG14.block _ (by omega) (by omega)).trans HVW_13.out)
          have HVG_14 := hid ((hG14.block _ (by omega) (by omega)).trans HVG_13.out)
          clear HB0_13 HB3_13 HB4_13 HOw1_13 HOw2_13 HOw3_13 HOg1_13 HOg2_13 HOg3_13 HVA_13 HVW_13 HVG_13
          clear ht14 hG14 ho0_14 ho1_14 ho2_14
          have k_G_0 := (cell_of_row _ _ 0 _ _ _ HVG_14.out).trans rfl
          have k_G_1 := (cell_of_row _ _ 1 _ _ _ HVG_14.out).trans rfl
          have k_G_2 := (cell_of_row _ _ 2 _ _ _ HVG_14.out).trans rfl
          go_wp2_with (go_at_call 11; refine (held_Relying 1 O1.length O2.length O3.length (by omega) (by omega) _ _ _ _ (marks_textsA HOg1_14.out) (marks_textsA HOg2_14.out) (marks_textsA HOg3_14.out)).mono ?_; rintro e w15 ⟨rfl, hb15⟩; refine Hid.out ?_)
          refine hid ?_
          clear k_G_0 k_G_1 k_G_2
          have hz15 := hb15.size
          have HB0_15 := hid (HB0_14.out.trans (hb15.mono HB0_14.out.size))
          have HB3_15 := hid (HB3_14.out.trans (hb15.mono HB3_14.out.size))
          have HB4_15 := hid (HB4_14.out.trans (hb15.mono HB4_14.out.size))
          have HOw1_15 := hid (own_below HOw1_14.out hb15)
          have HOw2_15 := hid (own_below HOw2_14.out hb15)
          have HOw3_15 := hid (own_below HOw3_14.out hb15)
          have HOg1_15 := hid (own_below HOg1_14.out hb15)
          have HOg2_15 := hid (own_below HOg2_14.out hb15)
          have HOg3_15 := hid (own_below HOg3_14.out hb15)
          have HVA_15 := hid ((hb15.block _ (by omega)).trans HVA_14.out)
          have HVW_15 := hid ((hb15.block _ (by omega)).trans HVW_14.out)
          have HVG_15 := hid ((hb15.block _ (by omega)).trans HVG_14.out)
          clear HB0_14 HB3_14 HB4_14 HOw1_14 HOw2_14 HOw3_14 HOg1_14 HOg2_14 HOg3_14 HVA_14 HVW_14 HVG_14
          clear hb15
          have k_A_0 := (cell_of_row _ _ 0 _ _ _ HVA_15.out).trans rfl
          have k_A_1 := (cell_of_row _ _ 1 _ _ _ HVA_15.out).trans rfl
          have k_A_2 := (cell_of_row _ _ 2 _ _ _ HVA_15.out).trans rfl
          go_wp2_with (go_at_call 7; refine (TA.out _ (HFa.out.on HB0_15.out) (HFb.out.on HB0_15.out) (HFc.out.on HB0_15.out)).mono ?_; rintro e w16 ⟨b1, b2, b3, rfl, hb16, f1, f2, f3, d12, d13, d23⟩; refine Hid.out ?_)
          refine hid ?_
          clear k_A_0 k_A_1 k_A_2
          have hz16 := hb16.size
          have HB0_16 := hid (HB0_15.out.trans (hb16.mono HB0_15.out.size))
          have HB3_16 := hid (HB3_15.out.trans (hb16.mono HB3_15.out.size))
          have HB4_16 := hid (HB4_15.out.trans (hb16.mono HB4_15.out.size))
          have HOw1_16 := hid (own_below HOw1_15.out hb16)
          have HOw2_16 := hid (own_below HOw2_15.out hb16)
          have HOw3_16 := hid (own_below HOw3_15.out hb16)
          have HOg1_16 := hid (own_below HOg1_15.out hb16)
          have HOg2_16 := hid (own_below HOg2_15.out hb16)
          have HOg3_16 := hid (own_below HOg3_15.out hb16)
          have HVA_16 := hid ((hb16.block _ (by omega)).trans HVA_15.out)
          have HVW_16 := hid ((hb16.block _ (by omega)).trans HVW_15.out)
          have HVG_16 := hid ((hb16.block _ (by omega)).trans HVG_15.out)
          clear HB0_15 HB3_15 HB4_15 HOw1_15 HOw2_15 HOw3_15 HOg1_15 HOg2_15 HOg3_15 HVA_15 HVW_15 HVG_15
          have HB16_16 : Hid (Below w16.heap.size w16 w16) := hid (Below.refl _ _)
          have HOt1_16 := hid f1
          have HLt1 := hid (f1.lt)
          have HOt2_16 := hid f2
          have HLt2 := hid (f2.lt)
          have HOt3_16 := hid f3
          have HLt3 := hid (f3.lt)
          have HAPt := hid (And.intro (ApartV.of_lt d12) (And.intro (ApartV.of_lt d13) (ApartV.of_lt d23)))
          obtain ⟨p16, c16, rfl⟩ := touch_slice HOt1_16.out
          obtain ⟨q16, d16, rfl⟩ := touch_slice HOt2_16.out
          obtain ⟨u16, v16, rfl⟩ := touch_slice HOt3_16.out
          clear d12 d13 d23
          clear hb16 f1 f2 f3
          go_wp2_with (go_at_call 8; refine (CI.out _ _ _ _ (texts_of HOt1_16.out) (texts_of HOt2_16.out) (texts_of HOt3_16.out) (tab_on HTAB.out hG HB0_16.out) (Nat.lt_of_lt_of_le hG HB0_16.out.size) (Num.tab_stays HB0_16.out HPW.out)).mono ?_; rintro e w17 ⟨b1, b2, b3, rfl, hb17, ⟨f1, f2, f3, d12, d13, d23⟩⟩; refine Hid.out ?_)
          refine hid ?_
          have hz17 := hb17.size
          have HB0_17 := hid (HB0_16.out.trans (hb17.mono HB0_16.out.size))
          have HB3_17 := hid (HB3_16.out.trans (hb17.mono HB3_16.out.size))
          have HB4_17 := hid (HB4_16.out.trans (hb17.mono HB4_16.out.size))
          have HB16_17 := hid (HB16_16.out.trans (hb17.mono HB16_16.out.size))
          have HOw1_17 := hid (own_below HOw1_16.out hb17)
          have HOw2_17 := hid (own_below HOw2_16.out hb17)
          have HOw3_17 := hid (own_below HOw3_16.out hb17)
          have HOg1_17 := hid (own_below HOg1_16.out hb17)
          have HOg2_17 := hid (own_below HOg2_16.out hb17)
          have HOg3_17 := hid (own_below HOg3_16.out hb17)
          have HOt1_17 := hid (own_below HOt1_16.out hb17)
          have HOt2_17 := hid (own_below HOt2_16.out hb17)
          have HOt3_17 := hid (own_below HOt3_16.out hb17)
          have HVA_17 := hid ((hb17.block _ (by omega)).trans HVA_16.out)
          have HVW_17 := hid ((hb17.block _ (by omega)).trans HVW_16.out)
          have HVG_17 := hid ((hb17.block _ (by omega)).trans HVG_16.out)
          clear HB0_16 HB3_16 HB4_16 HB16_16 HOw1_16 HOw2_16 HOw3_16 HOg1_16 HOg2_16 HOg3_16 HOt1_16 HOt2_16 HOt3_16 HVA_16 HVW_16 HVG_16
          have HB17_17 : Hid (Below w17.heap.size w17 w17) := hid (Below.refl _ _)
          have HOh1_17 := hid f1
          have HLh1 := hid (f1.lt)
          have HOh2_17 := hid f2
          have HLh2 := hid (f2.lt)
          have HOh3_17 := hid f3
          have HLh3 := hid (f3.lt)
          have HAPh := hid (And.intro d12 (And.intro d13 d23))
          obtain ⟨p17, c17, rfl⟩ := touch_slice HOh1_17.out
          obtain ⟨q17, d17, rfl⟩ := touch_slice HOh2_17.out
          obtain ⟨u17, v17, rfl⟩ := touch_slice HOh3_17.out
          clear d12 d13 d23
          clear hb17 f1 f2 f3
          obtain ⟨w18, hw18⟩ : ∃ W, W = w17.alloc (.cells #[.slice p17 O1.length c17, .slice q17 O2.length d17, .slice u17 O3.length v17] 26) := ⟨_, rfl⟩
          have hb18 : Below w17.heap.size w17 w18 := by rw [hw18]; exact (Below.refl _ _).alloc (Nat.le_refl _) _
          have hz18 : w17.heap.size < w18.heap.size := by rw [hw18]; simp
          have HVHh_18 : Hid (w18.heap[w17.heap.size]? = some (.cells #[.slice p17 O1.length c17, .slice q17 O2.length d17, .slice u17 O3.length v17] 26)) := hid (by rw [hw18]; exact heap_alloc_new _ _)
          have HW18 := hid hw18
          have HB0_18 := hid (HB0_17.out.trans (hb18.mono HB0_17.out.size))
          have HB3_18 := hid (HB3_17.out.trans (hb18.mono HB3_17.out.size))
          have HB4_18 := hid (HB4_17.out.trans (hb18.mono HB4_17.out.size))
          have HB16_18 := hid (HB16_17.out.trans (hb18.mono HB16_17.out.size))
          have HB17_18 := hid (HB17_17.out.trans (hb18.mono HB17_17.out.size))
          have HOw1_18 := hid (own_below HOw1_17.out hb18)
          have HOw2_18 := hid (own_below HOw2_17.out hb18)
          have HOw3_18 := hid (own_below HOw3_17.out hb18)
          have HOg1_18 := hid (own_below HOg1_17.out hb18)
          have HOg2_18 := hid (own_below HOg2_17.out hb18)
          have HOg3_18 := hid (own_below HOg3_17.out hb18)
          have HOt1_18 := hid (own_below HOt1_17.out hb18)
          have HOt2_18 := hid (own_below HOt2_17.out hb18)
          have HOt3_18 := hid (own_below HOt3_17.out hb18)
          have HOh1_18 := hid (own_below HOh1_17.out hb18)
          have HOh2_18 := hid (own_below HOh2_17.out hb18)
          have HOh3_18 := hid (own_below HOh3_17.out hb18)
          have HVA_18 := hid ((hb18.block _ (by omega)).trans HVA_17.out)
          have HVW_18 := hid ((hb18.block _ (by omega)).trans HVW_17.out)
          have HVG_18 := hid ((hb18.block _ (by omega)).trans HVG_17.out)
          clear HB0_17 HB3_17 HB4_17 HB16_17 HB17_17 HOw1_17 HOw2_17 HOw3_17 HOg1_17 HOg2_17 HOg3_17 HOt1_17 HOt2_17 HOt3_17 HOh1_17 HOh2_17 HOh3_17
          clear hw18 hb18
          have kz_W : w4.heap.size < w17.heap.size := by omega
          have k_W_0 := (cell_of_row _ _ 0 _ _ _ HVW_17.out).trans rfl
          have k_W_1 := (cell_of_row _ _ 1 _ _ _ HVW_17.out).trans rfl
          have k_W_2 := (cell_of_row _ _ 2 _ _ _ HVW_17.out).trans rfl
          go_wp2_with (go_at_call 9; rw [← HW18.out]; refine (eq_Relying O1 O2 O3 (by omega) (by omega) (by omega) _ _ _ _ _ _ _ (texts_of HOh1_18.out) (texts_of HOh2_18.out) (texts_of HOh3_18.out) (texts_of HOw1_18.out) (texts_of HOw2_18.out) (texts_of HOw3_18.out)).mono ?_; rintro e w19 ⟨rfl, hb19⟩; refine Hid.out ?_)
          refine hid ?_
          clear kz_W k_W_0 k_W_1 k_W_2
          clear HVA_17 HVW_17 HVG_17
          have hz19 := hb19.size
          have HB0_19 := hid (HB0_18.out.trans (hb19.mono HB0_18.out.size))
          have HB3_19 := hid (HB3_18.out.trans (hb19.mono HB3_18.out.size))
          have HB4_19 := hid (HB4_18.out.trans (hb19.mono HB4_18.out.size))
          have HB16_19 := hid (HB16_18.out.trans (hb19.mono HB16_18.out.size))
          have HB17_19 := hid (HB17_18.out.trans (hb19.mono HB17_18.out.size))
          have HOw1_19 := hid (own_below HOw1_18.out hb19)
          have HOw2_19 := hid (own_below HOw2_18.out hb19)
          have HOw3_19 := hid (own_below HOw3_18.out hb19)
          have HOg1_19 := hid (own_below HOg1_18.out hb19)
          have HOg2_19 := hid (own_below HOg2_18.out hb19)
          have HOg3_19 := hid (own_below HOg3_18.out hb19)
          have HOh1_19 := hid (own_below HOh1_18.out hb19)
          have HOh2_19 := hid (own_below HOh2_18.out hb19)
          have HOh3_19 := hid (own_below HOh3_18.out hb19)
          have HVA_19 := hid ((hb19.block _ (by omega)).trans HVA_18.out)
          have HVW_19 := hid ((hb19.block _ (by omega)).trans HVW_18.out)
          have HVG_19 := hid ((hb19.block _ (by omega)).trans HVG_18.out)
          have HVHh_19 := hid ((hb19.block _ (by omega)).trans HVHh_18.out)
          clear HB0_18 HB3_18 HB4_18 HB16_18 HB17_18 HOw1_18 HOw2_18 HOw3_18 HOg1_18 HOg2_18 HOg3_18 HOh1_18 HOh2_18 HOh3_18 HVA_18 HVW_18 HVG_18 HVHh_18
          clear hb19
          have k_G_0 := (cell_of_row _ _ 0 _ _ _ HVG_19.out).trans rfl
          have k_G_1 := (cell_of_row _ _ 1 _ _ _ HVG_19.out).trans rfl
          have k_G_2 := (cell_of_row _ _ 2 _ _ _ HVG_19.out).trans rfl
          go_wp2_with (go_at_call 11; refine (held_Relying 1 O1.length O2.length O3.length (by omega) (by omega) _ _ _ _ (marks_textsA HOg1_19.out) (marks_textsA HOg2_19.out) (marks_textsA HOg3_19.out)).mono ?_; rintro e w20 ⟨rfl, hb20⟩; refine Hid.out ?_)
          refine hid ?_
          clear k_G_0 k_G_1 k_G_2
          have hz20 := hb20.size
          have HB0_20 := hid (HB0_19.out.trans (hb20.mono HB0_19.out.size))
          have HB3_20 := hid (HB3_19.out.trans (hb20.mono HB3_19.out.size))
          have HB4_20 := hid (HB4_19.out.trans (hb20.mono HB4_19.out.size))
          have HB16_20 := hid (HB16_19.out.trans (hb20.mono HB16_19.out.size))
          have HB17_20 := hid (HB17_19.out.trans (hb20.mono HB17_19.out.size))
          have HOw1_20 := hid (own_below HOw1_19.out hb20)
          have HOw2_20 := hid (own_below HOw2_19.out hb20)
          have HOw3_20 := hid (own_below HOw3_19.out hb20)
          have HOg1_20 := hid (own_below HOg1_19.out hb20)
          have HOg2_20 := hid (own_below HOg2_19.out hb20)
          have HOg3_20 := hid (own_below HOg3_19.out hb20)
          have HOh1_20 := hid (own_below HOh1_19.out hb20)
          have HOh2_20 := hid (own_below HOh2_19.out hb20)
          have HOh3_20 := hid (own_below HOh3_19.out hb20)
          have HVA_20 := hid ((hb20.block _ (by omega)).trans HVA_19.out)
          have HVW_20 := hid ((hb20.block _ (by omega)).trans HVW_19.out)
          have HVG_20 := hid ((hb20.block _ (by omega)).trans HVG_19.out)
          have HVHh_20 := hid ((hb20.block _ (by omega)).trans HVHh_19.out)
          clear HB0_19 HB3_19 HB4_19 HB16_19 HB17_19 HOw1_19 HOw2_19 HOw3_19 HOg1_19 HOg2_19 HOg3_19 HOh1_19 HOh2_19 HOh3_19 HVA_19 HVW_19 HVG_19 HVHh_19
          clear hb20
          go_wp2
          go_ret
          exact ⟨rfl, HB0_20.out⟩
      · have hgn2 : (name.size : Int) > 1048576 := by omega
        go_enter Tryz.func3, Tryz.ntmps3
        go_wp2
        go_ret
        exact ⟨rfl, (Below.refl _ _).alloc (Nat.le_refl _) _⟩
    · have hgd2 : (x.size : Int) > 1048576 := by omega
      go_enter Tryz.func3, Tryz.ntmps3
      go_wp2
      go_ret
      exact ⟨rfl, (Below.refl _ _).alloc (Nat.le_refl _) _⟩
  · have hgt2 : (t.size : Int) > 1048576 := by omega
    go_enter Tryz.func3, Tryz.ntmps3
    go_wp2
    go_ret
    exact ⟨rfl, (Below.refl _ _).alloc (Nat.le_refl _) _⟩
end Go.Proofs.YtjaaplcgphlccaaGreatDoor
