/- The law on Overlap, walked: it answers true. -/
import Derived.Test.YtcpbofgfnbiieaaOverSpec
import Derived.Test.YtcpbofgfnbiieaaLawKit
import Derived.Deep.RegionWith
namespace Go.Proofs.Ytcpbofgfnbiieaa
open Go.RowKit
open Go.Lib (hid)

set_option maxRecDepth 20000 in
set_option maxHeartbeats 4000000 in
theorem law_overlap (l : List Nat) (hm : l.length ≤ maxLen) (h : List Nat) (hm2 : h.length ≤ maxLen) (a b : Value) (w : World) (ha : ArgFls w a l) (hb : ArgFls w b h) :
    Calls Try.prog 13 #[a, b] w fun e w' => e = .returned (.bool true) ∧ Below w.heap.size w w' := by
  have HFa := hid ha
  have HFb := hid hb
  obtain ⟨p0, c0, rfl, _⟩ := ha
  obtain ⟨q0, d0, rfl, _⟩ := hb
  unfold maxLen at hm hm2
  by_cases hL : l.length ≤ 1048576
  · by_cases hM : h.length ≤ 1048576
    · skip
      have HB0_0 : Hid (Below w.heap.size w w) := hid (Below.refl _ _)
      have hz0 : w.heap.size ≤ w.heap.size := Nat.le_refl _
      have CS := hid (fun a b W ha hb => over_spec l h hL hM a b W ha hb)
      have CI := hid (fun a b W ha hb => over_impl l h hL hM a b W ha hb)
      unfold OvPost at CS CI
      generalize ovLow l h = lo at *
      generalize ovHigh l h = hi at *
      generalize ovB l h = bb at *
      have hbb : (bb != bb) = false := by cases bb <;> rfl
      go_enter Try.func13, Try.ntmps13
      go_wp2_with (go_at_call_of 41 (Value.slice p0 l.length c0); refine (to_fls l hL _ _ (HFa.out.on HB0_0.out)).mono ?_; rintro e w1 ⟨rfl, hb1, ho1⟩; refine Hid.out ?_)
      refine hid ?_
      have hz1 := hb1.size
      have HB0_1 := hid (HB0_0.out.trans (hb1.mono HB0_0.out.size))
      have HB1_1 : Hid (Below w1.heap.size w1 w1) := hid (Below.refl _ _)
      have HOt1_1 := hid ho1
      have HLt1 := hid (ho1.lt)
      clear hb1 ho1
      go_wp2_with (go_at_call_of 41 (Value.slice q0 h.length d0); refine (to_fls h hM _ _ (HFb.out.on HB0_1.out)).mono ?_; rintro e w2 ⟨rfl, hb2, ho2⟩; refine Hid.out ?_)
      refine hid ?_
      have hz2 := hb2.size
      have HB0_2 := hid (HB0_1.out.trans (hb2.mono HB0_1.out.size))
      have HB1_2 := hid (HB1_1.out.trans (hb2.mono HB1_1.out.size))
      have HOt1_2 := hid (own_below HOt1_1.out hb2)
      clear HB0_1 HB1_1 HOt1_1
      have HB2_2 : Hid (Below w2.heap.size w2 w2) := hid (Below.refl _ _)
      have HOt2_2 := hid ho2
      have HLt2 := hid (ho2.lt)
      clear hb2 ho2
      go_wp2_with (go_at_call 40; refine (CS.out _ _ _ (row_fl_own HOt1_2.out) (row_fl_own HOt2_2.out)).mono ?_; rintro e w3 ⟨rfl, hb3⟩; refine Hid.out ?_)
      refine hid ?_
      have hz3 := hb3.size
      have HB0_3 := hid (HB0_2.out.trans (hb3.mono HB0_2.out.size))
      have HB1_3 := hid (HB1_2.out.trans (hb3.mono HB1_2.out.size))
      have HB2_3 := hid (HB2_2.out.trans (hb3.mono HB2_2.out.size))
      have HOt1_3 := hid (own_below HOt1_2.out hb3)
      have HOt2_3 := hid (own_below HOt2_2.out hb3)
      clear HB0_2 HB1_2 HB2_2 HOt1_2 HOt2_2
      clear hb3
      go_wp2_with (go_at_call_of 41 (Value.slice p0 l.length c0); refine (to_fls l hL _ _ (HFa.out.on HB0_3.out)).mono ?_; rintro e w4 ⟨rfl, hb4, ho4⟩; refine Hid.out ?_)
      refine hid ?_
      have hz4 := hb4.size
      have HB0_4 := hid (HB0_3.out.trans (hb4.mono HB0_3.out.size))
      have HB1_4 := hid (HB1_3.out.trans (hb4.mono HB1_3.out.size))
      have HB2_4 := hid (HB2_3.out.trans (hb4.mono HB2_3.out.size))
      clear HB0_3 HB1_3 HB2_3
      have HB4_4 : Hid (Below w4.heap.size w4 w4) := hid (Below.refl _ _)
      have HOx0_4 := hid ho4
      have HLx0 := hid (ho4.lt)
      clear hb4 ho4
      go_wp2_with (go_at_call_of 41 (Value.slice q0 h.length d0); refine (to_fls h hM _ _ (HFb.out.on HB0_4.out)).mono ?_; rintro e w5 ⟨rfl, hb5, ho5⟩; refine Hid.out ?_)
      refine hid ?_
      have hz5 := hb5.size
      have HB0_5 := hid (HB0_4.out.trans (hb5.mono HB0_4.out.size))
      have HB1_5 := hid (HB1_4.out.trans (hb5.mono HB1_4.out.size))
      have HB2_5 := hid (HB2_4.out.trans (hb5.mono HB2_4.out.size))
      have HB4_5 := hid (HB4_4.out.trans (hb5.mono HB4_4.out.size))
      have HOx0_5 := hid (own_below HOx0_4.out hb5)
      clear HB0_4 HB1_4 HB2_4 HB4_4 HOx0_4
      have HB5_5 : Hid (Below w5.heap.size w5 w5) := hid (Below.refl _ _)
      have HOx1_5 := hid ho5
      have HLx1 := hid (ho5.lt)
      clear hb5 ho5
      go_wp2_with (go_at_call 42; refine (CI.out _ _ _ (row_fl_own HOx0_5.out) (row_fl_own HOx1_5.out)).mono ?_; rintro e w6 ⟨rfl, hb6⟩; refine Hid.out ?_)
      refine hid ?_
      have hz6 := hb6.size
      have HB0_6 := hid (HB0_5.out.trans (hb6.mono HB0_5.out.size))
      have HB1_6 := hid (HB1_5.out.trans (hb6.mono HB1_5.out.size))
      have HB2_6 := hid (HB2_5.out.trans (hb6.mono HB2_5.out.size))
      have HB4_6 := hid (HB4_5.out.trans (hb6.mono HB4_5.out.size))
      have HB5_6 := hid (HB5_5.out.trans (hb6.mono HB5_5.out.size))
      have HOx0_6 := hid (own_below HOx0_5.out hb6)
      have HOx1_6 := hid (own_below HOx1_5.out hb6)
      clear HB0_5 HB1_5 HB2_5 HB4_5 HB5_5 HOx0_5 HOx1_5
      clear hb6
      go_wp2_with (go_at_call 23; refine (same_float (FS.some lo) (FS.some lo) _).mono ?_; rintro e wq ⟨rfl, eq⟩; rw [eq]; clear eq wq; refine Hid.out ?_)
      refine hid ?_
      go_wp2_with (go_at_call 23; refine (same_float (FS.some hi) (FS.some hi) _).mono ?_; rintro e wq ⟨rfl, eq⟩; rw [eq]; clear eq wq; refine Hid.out ?_)
      refine hid ?_
      go_wp2_with (go_at_call_of 41 (Value.slice p0 l.length c0); refine (to_fls l hL _ _ (HFa.out.on HB0_6.out)).mono ?_; rintro e w7 ⟨rfl, hb7, ho7⟩; refine Hid.out ?_)
      refine hid ?_
      have hz7 := hb7.size
      have HB0_7 := hid (HB0_6.out.trans (hb7.mono HB0_6.out.size))
      have HB1_7 := hid (HB1_6.out.trans (hb7.mono HB1_6.out.size))
      have HB2_7 := hid (HB2_6.out.trans (hb7.mono HB2_6.out.size))
      have HB4_7 := hid (HB4_6.out.trans (hb7.mono HB4_6.out.size))
      have HB5_7 := hid (HB5_6.out.trans (hb7.mono HB5_6.out.size))
      have HOx0_7 := hid (own_below HOx0_6.out hb7)
      have HOx1_7 := hid (own_below HOx1_6.out hb7)
      clear HB0_6 HB1_6 HB2_6 HB4_6 HB5_6 HOx0_6 HOx1_6
      have HB7_7 : Hid (Below w7.heap.size w7 w7) := hid (Below.refl _ _)
      have HOt3_7 := hid ho7
      have HLt3 := hid (ho7.lt)
      clear hb7 ho7
      go_wp2_with (go_at_call 43; refine (eq_fls l (by omega) _ _ _ (row_fl_own HOx0_7.out) (row_fl_own HOt3_7.out)).mono ?_; rintro e w8 ⟨rfl, hb8⟩; refine Hid.out ?_)
      refine hid ?_
      have hz8 := hb8.size
      have HB0_8 := hid (HB0_7.out.trans (hb8.mono HB0_7.out.size))
      have HB1_8 := hid (HB1_7.out.trans (hb8.mono HB1_7.out.size))
      have HB2_8 := hid (HB2_7.out.trans (hb8.mono HB2_7.out.size))
      have HB4_8 := hid (HB4_7.out.trans (hb8.mono HB4_7.out.size))
      have HB5_8 := hid (HB5_7.out.trans (hb8.mono HB5_7.out.size))
      have HB7_8 := hid (HB7_7.out.trans (hb8.mono HB7_7.out.size))
      have HOx0_8 := hid (own_below HOx0_7.out hb8)
      have HOx1_8 := hid (own_below HOx1_7.out hb8)
      have HOt3_8 := hid (own_below HOt3_7.out hb8)
      clear HB0_7 HB1_7 HB2_7 HB4_7 HB5_7 HB7_7 HOx0_7 HOx1_7 HOt3_7
      clear hb8
      go_wp2_with (go_at_call_of 41 (Value.slice q0 h.length d0); refine (to_fls h hM _ _ (HFb.out.on HB0_8.out)).mono ?_; rintro e w9 ⟨rfl, hb9, ho9⟩; refine Hid.out ?_)
      refine hid ?_
      have hz9 := hb9.size
      have HB0_9 := hid (HB0_8.out.trans (hb9.mono HB0_8.out.size))
      have HB1_9 := hid (HB1_8.out.trans (hb9.mono HB1_8.out.size))
      have HB2_9 := hid (HB2_8.out.trans (hb9.mono HB2_8.out.size))
      have HB4_9 := hid (HB4_8.out.trans (hb9.mono HB4_8.out.size))
      have HB5_9 := hid (HB5_8.out.trans (hb9.mono HB5_8.out.size))
      have HB7_9 := hid (HB7_8.out.trans (hb9.mono HB7_8.out.size))
      have HOx0_9 := hid (own_below HOx0_8.out hb9)
      have HOx1_9 := hid (own_below HOx1_8.out hb9)
      clear HB0_8 HB1_8 HB2_8 HB4_8 HB5_8 HB7_8 HOx0_8 HOx1_8
      have HB9_9 : Hid (Below w9.heap.size w9 w9) := hid (Below.refl _ _)
      have HOt4_9 := hid ho9
      have HLt4 := hid (ho9.lt)
      clear hb9 ho9
      go_wp2_with (go_at_call 43; refine (eq_fls h (by omega) _ _ _ (row_fl_own HOx1_9.out) (row_fl_own HOt4_9.out)).mono ?_; rintro e w10 ⟨rfl, hb10⟩; refine Hid.out ?_)
      refine hid ?_
      have hz10 := hb10.size
      have HB0_10 := hid (HB0_9.out.trans (hb10.mono HB0_9.out.size))
      have HB1_10 := hid (HB1_9.out.trans (hb10.mono HB1_9.out.size))
      have HB2_10 := hid (HB2_9.out.trans (hb10.mono HB2_9.out.size))
      have HB4_10 := hid (HB4_9.out.trans (hb10.mono HB4_9.out.size))
      have HB5_10 := hid (HB5_9.out.trans (hb10.mono HB5_9.out.size))
      have HB7_10 := hid (HB7_9.out.trans (hb10.mono HB7_9.out.size))
      have HB9_10 := hid (HB9_9.out.trans (hb10.mono HB9_9.out.size))
      have HOx0_10 := hid (own_below HOx0_9.out hb10)
      have HOx1_10 := hid (own_below HOx1_9.out hb10)
      have HOt4_10 := hid (own_below HOt4_9.out hb10)
      clear HB0_9 HB1_9 HB2_9 HB4_9 HB5_9 HB7_9 HB9_9 HOx0_9 HOx1_9 HOt4_9
      clear hb10
      go_wp2
      go_ret
      exact ⟨rfl, HB0_10.out⟩
    · go_enter Try.func13, Try.ntmps13
      go_wp2
      go_ret
      exact ⟨rfl, Below.refl _ _⟩
  · go_enter Try.func13, Try.ntmps13
    go_wp2
    go_ret
    exact ⟨rfl, Below.refl _ _⟩

end Go.Proofs.Ytcpbofgfnbiieaa
