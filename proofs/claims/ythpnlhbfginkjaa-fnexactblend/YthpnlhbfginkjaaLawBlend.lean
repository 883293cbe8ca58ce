/- The law on Blend, walked: it answers true. -/
import Derived.Test.YthpnlhbfginkjaaBlendImpl
import Derived.Test.YthpnlhbfginkjaaRowMark
import Derived.Test.YthpnlhbfginkjaaLawKit
namespace Go.Proofs.Ythpnlhbfginkjaa
open Go.RowKit
open Go.Lib (hid)

set_option maxRecDepth 20000 in
set_option maxHeartbeats 4000000 in
theorem law_blend (es : List MarkD) (hs : ∀ e ∈ es, e.x0 < 18446744073709551616 ∧ e.x1 < 18446744073709551616) (hm : es.length ≤ maxLen) (a : Value) (w : World) (ha : FArg encMark 2 w a es) :
    Calls Try.prog 3 #[a] w fun e w' => e = .returned (.bool true) ∧ Below w.heap.size w w' := by
  have HFa := hid ha
  have CZ := hid (fun a W (ha : FArg encMark 2 W a es) => sz_Marks es hm 1048576 (Nat.le_refl _) a W ha)
  obtain ⟨p0, c0, rfl, _⟩ := ha
  have HB0_0 : Hid (Below w.heap.size w w) := hid (Below.refl _ _)
  have hz0 : w.heap.size ≤ w.heap.size := Nat.le_refl _
  go_enter Try.func3, Try.ntmps3
  go_wp2_with (go_at_call 8; refine (CZ.out _ _ (HFa.out.on HB0_0.out)).mono ?_; rintro e w1 ⟨⟨r, rfl, hr⟩, hb1⟩; refine Hid.out ?_)
  refine hid ?_
  have hz1 := hb1.size
  have HB0_1 := hid (HB0_0.out.trans (hb1.mono HB0_0.out.size))
  clear hb1
  rcases hr with hr | ⟨hr, htot⟩
  · go_wp2
    go_ret
    exact ⟨rfl, HB0_1.out⟩
  · skip
    have hr2 : ¬ r < 0 := by omega
    have hn1 : es.length ≤ 1048576 := by omega
    have CS := hid (fun a W ha => blend_spec es (by omega) a W ha)
    have CI := hid (fun a W ha => blend_impl es hs (by omega) a W ha)
    unfold FPost at CS CI
    clear htot hr hs
    go_wp2_with (go_at_call 10; refine (to_Marks es hn1 _ _ (HFa.out.on HB0_1.out)).mono ?_; rintro e w2 ⟨rfl, hb2, ho2⟩; refine Hid.out ?_)
    refine hid ?_
    have hz2 := hb2.size
    have HB0_2 := hid (HB0_1.out.trans (hb2.mono HB0_1.out.size))
    clear HB0_1
    have HB2_2 : Hid (Below w2.heap.size w2 w2) := hid (Below.refl _ _)
    have HOt1_2 := hid ho2
    have HLt1 := hid (ho2.lt)
    clear hb2 ho2
    go_wp2_with (go_at_call 9; refine (CS.out _ _ (row_of_own encMark_len HOt1_2.out)).mono ?_; rintro e w3 ⟨q1, rfl, hf1, hb3⟩; refine Hid.out ?_)
    refine hid ?_
    have hz3 := hb3.size
    have HB0_3 := hid (HB0_2.out.trans (hb3.mono HB0_2.out.size))
    have HB2_3 := hid (HB2_2.out.trans (hb3.mono HB2_2.out.size))
    have HOt1_3 := hid (own_below HOt1_2.out hb3)
    clear HB0_2 HB2_2 HOt1_2
    have HQ1 := hid hf1
    clear hf1
    clear hb3
    go_wp2_with (go_at_call 10; refine (to_Marks es hn1 _ _ (HFa.out.on HB0_3.out)).mono ?_; rintro e w4 ⟨rfl, hb4, ho4⟩; refine Hid.out ?_)
    refine hid ?_
    have hz4 := hb4.size
    have HB0_4 := hid (HB0_3.out.trans (hb4.mono HB0_3.out.size))
    have HB2_4 := hid (HB2_3.out.trans (hb4.mono HB2_3.out.size))
    clear HB0_3 HB2_3
    have HB4_4 : Hid (Below w4.heap.size w4 w4) := hid (Below.refl _ _)
    have HOx0_4 := hid ho4
    have HLx0 := hid (ho4.lt)
    clear hb4 ho4
    go_wp2_with (go_at_call 11; refine (CI.out _ _ (row_of_own encMark_len HOx0_4.out)).mono ?_; rintro e w5 ⟨q2, rfl, hf2, hb5⟩; refine Hid.out ?_)
    refine hid ?_
    have hz5 := hb5.size
    have HB0_5 := hid (HB0_4.out.trans (hb5.mono HB0_4.out.size))
    have HB2_5 := hid (HB2_4.out.trans (hb5.mono HB2_4.out.size))
    have HB4_5 := hid (HB4_4.out.trans (hb5.mono HB4_4.out.size))
    have HOx0_5 := hid (own_below HOx0_4.out hb5)
    clear HB0_4 HB2_4 HB4_4 HOx0_4
    have HQ2 := hid hf2
    clear hf2
    clear hb5
    go_wp2_with (go_at_call 12; refine (same_float HQ2.out HQ1.out _).mono ?_; rintro e wq ⟨rfl, eq⟩; rw [eq]; clear eq wq; refine Hid.out ?_)
    refine hid ?_
    go_wp2_with (go_at_call 10; refine (to_Marks es hn1 _ _ (HFa.out.on HB0_5.out)).mono ?_; rintro e w6 ⟨rfl, hb6, ho6⟩; refine Hid.out ?_)
    refine hid ?_
    have hz6 := hb6.size
    have HB0_6 := hid (HB0_5.out.trans (hb6.mono HB0_5.out.size))
    have HB2_6 := hid (HB2_5.out.trans (hb6.mono HB2_5.out.size))
    have HB4_6 := hid (HB4_5.out.trans (hb6.mono HB4_5.out.size))
    have HOx0_6 := hid (own_below HOx0_5.out hb6)
    clear HB0_5 HB2_5 HB4_5 HOx0_5
    have HB6_6 : Hid (Below w6.heap.size w6 w6) := hid (Below.refl _ _)
    have HOt3_6 := hid ho6
    have HLt3 := hid (ho6.lt)
    clear hb6 ho6
    go_wp2_with (go_at_call 13; refine (eq_Marks es (by omega) _ _ _ (row_of_own encMark_len HOx0_6.out) (row_of_own encMark_len HOt3_6.out)).mono ?_; rintro e w7 ⟨rfl, hb7⟩; refine Hid.out ?_)
    refine hid ?_
    have hz7 := hb7.size
    have HB0_7 := hid (HB0_6.out.trans (hb7.mono HB0_6.out.size))
    have HB2_7 := hid (HB2_6.out.trans (hb7.mono HB2_6.out.size))
    have HB4_7 := hid (HB4_6.out.trans (hb7.mono HB4_6.out.size))
    have HB6_7 := hid (HB6_6.out.trans (hb7.mono HB6_6.out.size))
    have HOx0_7 := hid (own_below HOx0_6.out hb7)
    have HOt3_7 := hid (own_below HOt3_6.out hb7)
    clear HB0_6 HB2_6 HB4_6 HB6_6 HOx0_6 HOt3_6
    clear hb7
    go_wp2
    go_ret
    exact ⟨rfl, HB0_7.out⟩
end Go.Proofs.Ythpnlhbfginkjaa
