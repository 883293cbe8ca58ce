/- The law on Composite, walked: it answers true. -/
import Derived.Test.YtponjghppnpnhaaDoorCompBoth
import Derived.Test.YtponjghppnpnhaaDoorLawKit
import Derived.Test.YtponjghppnpnhaaDoorTextKit
namespace Go.Proofs.YtponjghppnpnhaaDoor
open Go.RowKit
open Go.Lib (hid)

set_option maxRecDepth 20000 in
set_option maxHeartbeats 4000000 in
theorem law_composite (ps : List (List UInt8)) (mask : Int) (hs : ∀ p ∈ ps, p.length ≤ 9223372036854775807) (hn : ps.length ≤ 9223372036854775807) (a : Value) (w : World) (ha : ArgAt w a ps) (hT : Tab w) (hG : 0 < w.heap.size) (hP : Lib.TabIs Tryd.prog w "internal/strconv.uint64pow10" .u64 Lib.pow10Tab) :
    Calls Tryd.prog 3 #[a, .int .i64 mask] w fun e w' => e = .returned (.bool true) ∧ Below w.heap.size w w' := by
  have HFa := hid ha
  have HTAB := hid hT
  have HPOW := hid hP
  obtain ⟨p0, c0, rfl, _⟩ := ha
  have HS := hid hs
  clear hs hT hP
  have HB0_0 : Hid (Below w.heap.size w w) := hid (Below.refl _ _)
  have hz0 : w.heap.size ≤ w.heap.size := Nat.le_refl _
  go_enter Tryd.func3, Tryd.ntmps3
  go_wp2_with (go_at_call 12; refine (sz_calls ps HS.out hn _ _ (HFa.out.on HB0_0.out)).mono ?_; rintro e w1 ⟨⟨r, rfl, hr⟩, hb1⟩; refine Hid.out ?_)
  refine hid ?_
  have hz1 := hb1.size
  have HB0_1 := hid (HB0_0.out.trans (hb1.mono HB0_0.out.size))
  clear hb1
  rcases hr with hr | ⟨hr, htot⟩
  · go_wp2
    go_ret
    exact ⟨rfl, HB0_1.out⟩
  · skip
    have hr2 : ¬ r < 0 := by omega
    have hn1 : ps.length ≤ 1048576 := by omega
    have hs1 : ∀ p ∈ ps, p.length ≤ 1048576 := fun p hp => by have := total_mem hp; omega
    have CS := hid (fun a W ha => comp_spec ps hs1 hn1 mask a W ha)
    have CI := hid (fun p c W (_ : ps.length ≤ c) ha hT hG hP => comp_impl ps hn1 mask p c W ha hT hG hP)
    unfold MadeOut at CS CI
    obtain ⟨y, hy⟩ : ∃ y : ByteArray, (if (compOut ps mask).1 = true then bytesOf (compOut ps mask).2 else ⟨#[]⟩) = y := ⟨_, rfl⟩
    rw [hy] at CS CI
    clear hy
    generalize (compOut ps mask).1 = b at *
    have hyy : (y.toList == y.toList) = true := by simp
    have hbb : (b != b) = false := by cases b <;> rfl
    clear htot hr hs1
    go_wp2_with (go_at_call 14; refine (to_calls ps hn1 _ _ (HFa.out.on HB0_1.out)).mono ?_; rintro e w2 ⟨sv2, rfl, hb2, ho2⟩; refine Hid.out ?_)
    refine hid ?_
    have hz2 := hb2.size
    have HB0_2 := hid (HB0_1.out.trans (hb2.mono HB0_1.out.size))
    clear HB0_1
    have HB2_2 : Hid (Below w2.heap.size w2 w2) := hid (Below.refl _ _)
    have HOt1_2 := hid ho2
    have HLt1 := hid (ho2.lt)
    obtain ⟨p2, c2, rfl, hc2⟩ := own_shape HOt1_2.out
    clear hb2 ho2
    go_wp2_with (go_at_call 13; refine (CS.out _ _ (texts_of HOt1_2.out)).mono ?_; rintro e w3 ⟨rfl, hb3⟩; refine Hid.out ?_)
    refine hid ?_
    have hz3 := hb3.size
    have HB0_3 := hid (HB0_2.out.trans (hb3.mono HB0_2.out.size))
    have HB2_3 := hid (HB2_2.out.trans (hb3.mono HB2_2.out.size))
    have HOt1_3 := hid (own_below HOt1_2.out hb3)
    clear HB0_2 HB2_2 HOt1_2
    clear hb3
    go_wp2_with (go_at_call 14; refine (to_calls ps hn1 _ _ (HFa.out.on HB0_3.out)).mono ?_; rintro e w4 ⟨sv4, rfl, hb4, ho4⟩; refine Hid.out ?_)
    refine hid ?_
    have hz4 := hb4.size
    have HB0_4 := hid (HB0_3.out.trans (hb4.mono HB0_3.out.size))
    have HB2_4 := hid (HB2_3.out.trans (hb4.mono HB2_3.out.size))
    clear HB0_3 HB2_3
    have HB4_4 : Hid (Below w4.heap.size w4 w4) := hid (Below.refl _ _)
    have HOx0_4 := hid ho4
    have HLx0 := hid (ho4.lt)
    obtain ⟨p4, c4, rfl, hc4⟩ := own_shape HOx0_4.out
    clear hb4 ho4
    go_wp2_with (go_at_call 15; refine (CI.out p4 c4 _ hc4 (texts_of HOx0_4.out) (tab_on HTAB.out hG HB0_4.out) (Nat.lt_of_lt_of_le hG HB0_4.out.size) (Num.tab_stays HB0_4.out HPOW.out)).mono ?_; rintro e w5 ⟨rfl, hb5⟩; refine Hid.out ?_)
    refine hid ?_
    have hz5 := hb5.size
    have HB0_5 := hid (HB0_4.out.trans (hb5.mono HB0_4.out.size))
    have HB2_5 := hid (HB2_4.out.trans (hb5.mono HB2_4.out.size))
    have HB4_5 := hid (HB4_4.out.trans (hb5.mono HB4_4.out.size))
    have HOx0_5 := hid (own_below HOx0_4.out hb5)
    clear HB0_4 HB2_4 HB4_4 HOx0_4
    clear hb5
    go_wp2_with (go_at_call 14; refine (to_calls ps hn1 _ _ (HFa.out.on HB0_5.out)).mono ?_; rintro e w6 ⟨sv6, rfl, hb6, ho6⟩; refine Hid.out ?_)
    refine hid ?_
    have hz6 := hb6.size
    have HB0_6 := hid (HB0_5.out.trans (hb6.mono HB0_5.out.size))
    have HB2_6 := hid (HB2_5.out.trans (hb6.mono HB2_5.out.size))
    have HB4_6 := hid (HB4_5.out.trans (hb6.mono HB4_5.out.size))
    have HOx0_6 := hid (own_below HOx0_5.out hb6)
    clear HB0_5 HB2_5 HB4_5 HOx0_5
    have HB6_6 : Hid (Below w6.heap.size w6 w6) := hid (Below.refl _ _)
    have HOt2_6 := hid ho6
    have HLt2 := hid (ho6.lt)
    obtain ⟨p6, c6, rfl, hc6⟩ := own_shape HOt2_6.out
    clear hb6 ho6
    go_wp2_with (go_at_call 16; refine (eq_same ps (by omega) _ _ _ (texts_of HOx0_6.out) (texts_of HOt2_6.out)).mono ?_; rintro e w7 ⟨rfl, hb7⟩; refine Hid.out ?_)
    refine hid ?_
    have hz7 := hb7.size
    have HB0_7 := hid (HB0_6.out.trans (hb7.mono HB0_6.out.size))
    have HB2_7 := hid (HB2_6.out.trans (hb7.mono HB2_6.out.size))
    have HB4_7 := hid (HB4_6.out.trans (hb7.mono HB4_6.out.size))
    have HB6_7 := hid (HB6_6.out.trans (hb7.mono HB6_6.out.size))
    have HOx0_7 := hid (own_below HOx0_6.out hb7)
    have HOt2_7 := hid (own_below HOt2_6.out hb7)
    clear HB0_6 HB2_6 HB4_6 HB6_6 HOx0_6 HOt2_6
    clear hb7
    go_wp2
    go_ret
    exact ⟨rfl, HB0_7.out⟩
end Go.Proofs.YtponjghppnpnhaaDoor
