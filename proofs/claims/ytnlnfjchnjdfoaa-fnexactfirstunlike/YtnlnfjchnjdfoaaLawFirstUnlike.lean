/- The law on FirstUnlike, walked: it answers true. -/
import Derived.Test.YtnlnfjchnjdfoaaUnlikeBoth
import Derived.Test.YtnlnfjchnjdfoaaLawKit
namespace Go.Proofs.Ytnlnfjchnjdfoaa
open Go.RowKit
open Go.Lib (hid)

set_option maxRecDepth 20000 in
set_option maxHeartbeats 4000000 in
theorem law_unlike (us vs : List EventD) (hu : ∀ e ∈ us, tameEvent e) (hv : ∀ e ∈ vs, tameEvent e) (hmu : us.length ≤ maxLen) (hmv : vs.length ≤ maxLen) (a b : Value) (w : World) (ha : FArg encEvent 2 w a us) (hb : FArg encEvent 2 w b vs) :
    Calls Try.prog 3 #[a, b] w fun e w' => e = .returned (.bool true) ∧ Below w.heap.size w w' := by
  have HFa := hid ha
  have HFb := hid hb
  have CZ := hid (fun a W (ha : FArg encEvent 2 W a us) => sz_Events us hu hmu 1048576 (Nat.le_refl _) a W ha)
  have CY := hid (fun k hk a W (ha : FArg encEvent 2 W a vs) => sz_Events vs hv hmv k hk a W ha)
  obtain ⟨p0, c0, rfl, _⟩ := ha
  obtain ⟨q0, d0, rfl, _⟩ := hb
  clear hu hv
  have HB0_0 : Hid (Below w.heap.size w w) := hid (Below.refl _ _)
  have hz0 : w.heap.size ≤ w.heap.size := Nat.le_refl _
  go_enter Try.func3, Try.ntmps3
  go_wp2_with (go_at_call 4; refine (CZ.out _ _ (HFa.out.on HB0_0.out)).mono ?_; rintro e w1 ⟨⟨r, rfl, hr⟩, hb1⟩; refine Hid.out ?_)
  refine hid ?_
  have hz1 := hb1.size
  have HB0_1 := hid (HB0_0.out.trans (hb1.mono HB0_0.out.size))
  clear hb1
  rcases hr with hr | ⟨hr, htot⟩
  · go_wp2
    go_ret
    exact ⟨rfl, HB0_1.out⟩
  · skip
    obtain ⟨k, rfl⟩ := Int.eq_ofNat_of_zero_le hr
    have hk : k ≤ 1048576 := by omega
    have hr2 : ¬ (k : Int) < 0 := by omega
    have hn1 : us.length ≤ 1048576 := by omega
    clear htot hr
    go_wp2_with (go_at_call 4; refine (CY.out k hk _ _ (HFb.out.on HB0_1.out)).mono ?_; rintro e w2 ⟨⟨q, rfl, hq⟩, hb2⟩; refine Hid.out ?_)
    refine hid ?_
    have hz2 := hb2.size
    have HB0_2 := hid (HB0_1.out.trans (hb2.mono HB0_1.out.size))
    clear HB0_1
    clear hb2
    rcases hq with hq | ⟨hq, htot⟩
    · go_wp2
      go_ret
      exact ⟨rfl, HB0_2.out⟩
    · skip
      have hq2 : ¬ q < 0 := by omega
      have hn2 : vs.length ≤ 1048576 := by omega
      have CS := hid (fun a b W ha hb => unlike_spec us vs hn1 a b W ha hb)
      have CI := hid (fun a b W ha hb => unlike_impl us vs hn1 a b W ha hb)
      clear htot hq
      go_wp2_with (go_at_call_of 6 (Value.slice p0 us.length c0); refine (to_Events us hn1 _ _ (HFa.out.on HB0_2.out)).mono ?_; rintro e w3 ⟨rfl, hb3, ho3⟩; refine Hid.out ?_)
      refine hid ?_
      have hz3 := hb3.size
      have HB0_3 := hid (HB0_2.out.trans (hb3.mono HB0_2.out.size))
      clear HB0_2
      have HB3_3 : Hid (Below w3.heap.size w3 w3) := hid (Below.refl _ _)
      have HOt1_3 := hid ho3
      have HLt1 := hid (ho3.lt)
      clear hb3 ho3
      go_wp2_with (go_at_call_of 6 (Value.slice q0 vs.length d0); refine (to_Events vs hn2 _ _ (HFb.out.on HB0_3.out)).mono ?_; rintro e w4 ⟨rfl, hb4, ho4⟩; refine Hid.out ?_)
      refine hid ?_
      have hz4 := hb4.size
      have HB0_4 := hid (HB0_3.out.trans (hb4.mono HB0_3.out.size))
      have HB3_4 := hid (HB3_3.out.trans (hb4.mono HB3_3.out.size))
      have HOt1_4 := hid (own_below HOt1_3.out hb4)
      clear HB0_3 HB3_3 HOt1_3
      have HB4_4 : Hid (Below w4.heap.size w4 w4) := hid (Below.refl _ _)
      have HOt2_4 := hid ho4
      have HLt2 := hid (ho4.lt)
      clear hb4 ho4
      go_wp2_with (go_at_call 5; refine (CS.out _ _ _ (row_of_own encEvent_len HOt1_4.out) (row_of_own encEvent_len HOt2_4.out)).mono ?_; rintro e w5 ⟨⟨r1, rfl, hr1⟩, hb5⟩; refine Hid.out ?_)
      refine hid ?_
      have hz5 := hb5.size
      have HB0_5 := hid (HB0_4.out.trans (hb5.mono HB0_4.out.size))
      have HB3_5 := hid (HB3_4.out.trans (hb5.mono HB3_4.out.size))
      have HB4_5 := hid (HB4_4.out.trans (hb5.mono HB4_4.out.size))
      have HOt1_5 := hid (own_below HOt1_4.out hb5)
      have HOt2_5 := hid (own_below HOt2_4.out hb5)
      clear HB0_4 HB3_4 HB4_4 HOt1_4 HOt2_4
      clear hb5
      go_wp2_with (go_at_call_of 6 (Value.slice p0 us.length c0); refine (to_Events us hn1 _ _ (HFa.out.on HB0_5.out)).mono ?_; rintro e w6 ⟨rfl, hb6, ho6⟩; refine Hid.out ?_)
      refine hid ?_
      have hz6 := hb6.size
      have HB0_6 := hid (HB0_5.out.trans (hb6.mono HB0_5.out.size))
      have HB3_6 := hid (HB3_5.out.trans (hb6.mono HB3_5.out.size))
      have HB4_6 := hid (HB4_5.out.trans (hb6.mono HB4_5.out.size))
      clear HB0_5 HB3_5 HB4_5
      have HB6_6 : Hid (Below w6.heap.size w6 w6) := hid (Below.refl _ _)
      have HOx0_6 := hid ho6
      have HLx0 := hid (ho6.lt)
      clear hb6 ho6
      go_wp2_with (go_at_call_of 6 (Value.slice q0 vs.length d0); refine (to_Events vs hn2 _ _ (HFb.out.on HB0_6.out)).mono ?_; rintro e w7 ⟨rfl, hb7, ho7⟩; refine Hid.out ?_)
      refine hid ?_
      have hz7 := hb7.size
      have HB0_7 := hid (HB0_6.out.trans (hb7.mono HB0_6.out.size))
      have HB3_7 := hid (HB3_6.out.trans (hb7.mono HB3_6.out.size))
      have HB4_7 := hid (HB4_6.out.trans (hb7.mono HB4_6.out.size))
      have HB6_7 := hid (HB6_6.out.trans (hb7.mono HB6_6.out.size))
      have HOx0_7 := hid (own_below HOx0_6.out hb7)
      clear HB0_6 HB3_6 HB4_6 HB6_6 HOx0_6
      have HB7_7 : Hid (Below w7.heap.size w7 w7) := hid (Below.refl _ _)
      have HOx1_7 := hid ho7
      have HLx1 := hid (ho7.lt)
      clear hb7 ho7
      go_wp2_with (go_at_call 7; refine (CI.out _ _ _ (row_of_own encEvent_len HOx0_7.out) (row_of_own encEvent_len HOx1_7.out)).mono ?_; rintro e w8 ⟨⟨r2, rfl, hr3⟩, hb8⟩; refine Hid.out ?_)
      refine hid ?_
      have hz8 := hb8.size
      have HB0_8 := hid (HB0_7.out.trans (hb8.mono HB0_7.out.size))
      have HB3_8 := hid (HB3_7.out.trans (hb8.mono HB3_7.out.size))
      have HB4_8 := hid (HB4_7.out.trans (hb8.mono HB4_7.out.size))
      have HB6_8 := hid (HB6_7.out.trans (hb8.mono HB6_7.out.size))
      have HB7_8 := hid (HB7_7.out.trans (hb8.mono HB7_7.out.size))
      have HOx0_8 := hid (own_below HOx0_7.out hb8)
      have HOx1_8 := hid (own_below HOx1_7.out hb8)
      clear HB0_7 HB3_7 HB4_7 HB6_7 HB7_7 HOx0_7 HOx1_7
      clear hb8
      obtain rfl := hr1.one hr3
      have hrr : (r1 != r1) = false := by simp
      go_wp2_with (go_at_call_of 6 (Value.slice p0 us.length c0); refine (to_Events us hn1 _ _ (HFa.out.on HB0_8.out)).mono ?_; rintro e w9 ⟨rfl, hb9, ho9⟩; refine Hid.out ?_)
      refine hid ?_
      have hz9 := hb9.size
      have HB0_9 := hid (HB0_8.out.trans (hb9.mono HB0_8.out.size))
      have HB3_9 := hid (HB3_8.out.trans (hb9.mono HB3_8.out.size))
      have HB4_9 := hid (HB4_8.out.trans (hb9.mono HB4_8.out.size))
      have HB6_9 := hid (HB6_8.out.trans (hb9.mono HB6_8.out.size))
      have HB7_9 := hid (HB7_8.out.trans (hb9.mono HB7_8.out.size))
      have HOx0_9 := hid (own_below HOx0_8.out hb9)
      have HOx1_9 := hid (own_below HOx1_8.out hb9)
      clear HB0_8 HB3_8 HB4_8 HB6_8 HB7_8 HOx0_8 HOx1_8
      have HB9_9 : Hid (Below w9.heap.size w9 w9) := hid (Below.refl _ _)
      have HOt3_9 := hid ho9
      have HLt3 := hid (ho9.lt)
      clear hb9 ho9
      go_wp2_with (go_at_call 8; refine (eq_Events us (by omega) _ _ _ (row_of_own encEvent_len HOx0_9.out) (row_of_own encEvent_len HOt3_9.out)).mono ?_; rintro e w10 ⟨rfl, hb10⟩; refine Hid.out ?_)
      refine hid ?_
      have hz10 := hb10.size
      have HB0_10 := hid (HB0_9.out.trans (hb10.mono HB0_9.out.size))
      have HB3_10 := hid (HB3_9.out.trans (hb10.mono HB3_9.out.size))
      have HB4_10 := hid (HB4_9.out.trans (hb10.mono HB4_9.out.size))
      have HB6_10 := hid (HB6_9.out.trans (hb10.mono HB6_9.out.size))
      have HB7_10 := hid (HB7_9.out.trans (hb10.mono HB7_9.out.size))
      have HB9_10 := hid (HB9_9.out.trans (hb10.mono HB9_9.out.size))
      have HOx0_10 := hid (own_below HOx0_9.out hb10)
      have HOx1_10 := hid (own_below HOx1_9.out hb10)
      have HOt3_10 := hid (own_below HOt3_9.out hb10)
      clear HB0_9 HB3_9 HB4_9 HB6_9 HB7_9 HB9_9 HOx0_9 HOx1_9 HOt3_9
      clear hb10
      go_wp2_with (go_at_call_of 6 (Value.slice q0 vs.length d0); refine (to_Events vs hn2 _ _ (HFb.out.on HB0_10.out)).mono ?_; rintro e w11 ⟨rfl, hb11, ho11⟩; refine Hid.out ?_)
      refine hid ?_
      have hz11 := hb11.size
      have HB0_11 := hid (HB0_10.out.trans (hb11.mono HB0_10.out.size))
      have HB3_11 := hid (HB3_10.out.trans (hb11.mono HB3_10.out.size))
      have HB4_11 := hid (HB4_10.out.trans (hb11.mono HB4_10.out.size))
      have HB6_11 := hid (HB6_10.out.trans (hb11.mono HB6_10.out.size))
      have HB7_11 := hid (HB7_10.out.trans (hb11.mono HB7_10.out.size))
      have HB9_11 := hid (HB9_10.out.trans (hb11.mono HB9_10.out.size))
      have HOx1_11 := hid (own_below HOx1_10.out hb11)
      clear HB0_10 HB3_10 HB4_10 HB6_10 HB7_10 HB9_10 HOx1_10
      have HB11_11 : Hid (Below w11.heap.size w11 w11) := hid (Below.refl _ _)
      have HOt4_11 := hid ho11
      have HLt4 := hid (ho11.lt)
      clear hb11 ho11
      go_wp2_with (go_at_call 8; refine (eq_Events vs (by omega) _ _ _ (row_of_own encEvent_len HOx1_11.out) (row_of_own encEvent_len HOt4_11.out)).mono ?_; rintro e w12 ⟨rfl, hb12⟩; refine Hid.out ?_)
      refine hid ?_
      have hz12 := hb12.size
      have HB0_12 := hid (HB0_11.out.trans (hb12.mono HB0_11.out.size))
      have HB3_12 := hid (HB3_11.out.trans (hb12.mono HB3_11.out.size))
      have HB4_12 := hid (HB4_11.out.trans (hb12.mono HB4_11.out.size))
      have HB6_12 := hid (HB6_11.out.trans (hb12.mono HB6_11.out.size))
      have HB7_12 := hid (HB7_11.out.trans (hb12.mono HB7_11.out.size))
      have HB9_12 := hid (HB9_11.out.trans (hb12.mono HB9_11.out.size))
      have HB11_12 := hid (HB11_11.out.trans (hb12.mono HB11_11.out.size))
      have HOx1_12 := hid (own_below HOx1_11.out hb12)
      have HOt4_12 := hid (own_below HOt4_11.out hb12)
      clear HB0_11 HB3_11 HB4_11 HB6_11 HB7_11 HB9_11 HB11_11 HOx1_11 HOt4_11
      clear hb12
      go_wp2
      go_ret
      exact ⟨rfl, HB0_12.out⟩
end Go.Proofs.Ytnlnfjchnjdfoaa
