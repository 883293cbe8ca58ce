/- The law on RisingAt, walked: it answers true. -/
import Derived.Test.YtedmancgpjpecaaAudSame
import Derived.Test.YtedmancgpjpecaaAudFallS
import Derived.Test.YtedmancgpjpecaaLawKit
namespace Go.Proofs.Ytedmancgpjpecaa
open Go.RowKit
open Go.Lib (hid)

set_option maxRecDepth 20000 in
set_option maxHeartbeats 4000000 in
theorem law_rising (ds : List FactD) (hd : ∀ d ∈ ds, tameV d.v) (hm : ds.length ≤ maxLen) (a : Value) (w : World) (ha : FactsIn w a ds) :
    Calls Try.prog 5 #[a] w fun e w' => e = .returned (.bool true) ∧ Below w.heap.size w w' := by
  have HFa := hid ha
  have CZ := hid (fun a W (ha : FactsIn W a ds) => sz_Facts ds hd hm 1048576 (Nat.le_refl _) a W ha)
  obtain ⟨⟨p0, c0, rfl, _⟩, _⟩ := ha
  clear hd
  have HB0_0 : Hid (Below w.heap.size w w) := hid (Below.refl _ _)
  have hz0 : w.heap.size ≤ w.heap.size := Nat.le_refl _
  go_enter Try.func5, Try.ntmps5
  go_wp2_with (go_at_call 10; refine (CZ.out _ _ (HFa.out.on HB0_0.out)).mono ?_; rintro e w1 ⟨⟨r, rfl, hr⟩, hb1⟩; refine Hid.out ?_)
  refine hid ?_
  have hz1 := hb1.size
  have HB0_1 := hid (HB0_0.out.trans (hb1.mono HB0_0.out.size))
  clear hb1
  rcases hr with hr | ⟨hr, htot⟩
  · go_wp2
    go_ret
    exact ⟨rfl, HB0_1.out⟩
  · skip
    have hr2 : ¬ r < 0 := by omega
    have hn1 : ds.length ≤ 1048576 := by omega
    have HIM := hid (used_ims (ds := ds) (n := 1048576) (by omega))
    clear htot hr
    go_wp2_with (go_at_call 12; refine (to_Facts ds hn1 HIM.out _ _ (HFa.out.on HB0_1.out)).mono ?_; rintro e w2 ⟨f1, hf1, rfl, hb2, ho2⟩; refine Hid.out ?_)
    refine hid ?_
    have hz2 := hb2.size
    have HB0_2 := hid (HB0_1.out.trans (hb2.mono HB0_1.out.size))
    clear HB0_1
    have HB2_2 : Hid (Below w2.heap.size w2 w2) := hid (Below.refl _ _)
    have HFt1 := hid (ho2.at)
    have HM1 := hid hf1
    have hl1 : f1.length ≤ 1048576 := by rw [same_len hf1]; exact hn1
    clear ho2 hf1
    clear hb2
    go_wp2_with (go_at_call 20; refine (rising_spec f1 hl1 _ _ (HFt1.out.on HB2_2.out)).mono ?_; rintro e w3 ⟨⟨r1, rfl, hr1⟩, hb3⟩; refine Hid.out ?_)
    refine hid ?_
    have hz3 := hb3.size
    have HB0_3 := hid (HB0_2.out.trans (hb3.mono HB0_2.out.size))
    have HB2_3 := hid (HB2_2.out.trans (hb3.mono HB2_2.out.size))
    clear HB0_2 HB2_2
    have HR1 := hid hr1
    clear hr1
    clear hb3
    go_wp2_with (go_at_call 12; refine (to_Facts ds hn1 HIM.out _ _ (HFa.out.on HB0_3.out)).mono ?_; rintro e w4 ⟨f2, hf2, rfl, hb4, ho4⟩; refine Hid.out ?_)
    refine hid ?_
    have hz4 := hb4.size
    have HB0_4 := hid (HB0_3.out.trans (hb4.mono HB0_3.out.size))
    have HB2_4 := hid (HB2_3.out.trans (hb4.mono HB2_3.out.size))
    clear HB0_3 HB2_3
    have HB4_4 : Hid (Below w4.heap.size w4 w4) := hid (Below.refl _ _)
    have HFx0 := hid (ho4.at)
    have HM2 := hid hf2
    have hl2 : f2.length ≤ 1048576 := by rw [same_len hf2]; exact hn1
    clear ho4 hf2
    clear hb4
    go_wp2_with (go_at_call 21; refine (rising_impl f2 hl2 _ _ (HFx0.out.on HB4_4.out)).mono ?_; rintro e w5 ⟨⟨r3, rfl, hr3⟩, hb5⟩; refine Hid.out ?_)
    refine hid ?_
    have hz5 := hb5.size
    have HB0_5 := hid (HB0_4.out.trans (hb5.mono HB0_4.out.size))
    have HB2_5 := hid (HB2_4.out.trans (hb5.mono HB2_4.out.size))
    have HB4_5 := hid (HB4_4.out.trans (hb5.mono HB4_4.out.size))
    clear HB0_4 HB2_4 HB4_4
    have HR2 := hid hr3
    clear hr3
    clear hb5
    obtain rfl : r3 = r1 := by
      have h1 := HR1.out
      have h2 := HR2.out.congr (V := risingW) rising_same
      rw [HM1.out] at h1
      rw [HM2.out] at h2
      exact h2.one h1
    have hrr : (r3 != r3) = false := by simp
    go_wp2_with (go_at_call 12; refine (to_Facts ds hn1 HIM.out _ _ (HFa.out.on HB0_5.out)).mono ?_; rintro e w6 ⟨f3, hf3, rfl, hb6, ho6⟩; refine Hid.out ?_)
    refine hid ?_
    have hz6 := hb6.size
    have HB0_6 := hid (HB0_5.out.trans (hb6.mono HB0_5.out.size))
    have HB2_6 := hid (HB2_5.out.trans (hb6.mono HB2_5.out.size))
    have HB4_6 := hid (HB4_5.out.trans (hb6.mono HB4_5.out.size))
    clear HB0_5 HB2_5 HB4_5
    have HB6_6 : Hid (Below w6.heap.size w6 w6) := hid (Below.refl _ _)
    have HFt3 := hid (ho6.at)
    have HM3 := hid hf3
    have hl3 : f3.length ≤ 1048576 := by rw [same_len hf3]; exact hn1
    clear ho6 hf3
    clear hb6
    go_wp2_with (go_at_call 14; refine (eq_Facts f2 f3 (by omega) (by rw [HM2.out, HM3.out]) (fun d hd => Nat.le_trans (same_ims HM2.out HIM.out d hd) (by omega)) _ _ _ (HFx0.out.on HB4_6.out) (HFt3.out.on HB6_6.out)).mono ?_; rintro e w7 ⟨rfl, hb7⟩; refine Hid.out ?_)
    refine hid ?_
    have hz7 := hb7.size
    have HB0_7 := hid (HB0_6.out.trans (hb7.mono HB0_6.out.size))
    have HB2_7 := hid (HB2_6.out.trans (hb7.mono HB2_6.out.size))
    have HB4_7 := hid (HB4_6.out.trans (hb7.mono HB4_6.out.size))
    have HB6_7 := hid (HB6_6.out.trans (hb7.mono HB6_6.out.size))
    clear HB0_6 HB2_6 HB4_6 HB6_6
    clear hb7
    go_wp2
    go_ret
    exact ⟨rfl, HB0_7.out⟩
end Go.Proofs.Ytedmancgpjpecaa
