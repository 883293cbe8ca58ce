/- The law on BackedAt, walked: it answers true. -/
import Derived.Test.YtedmancgpjpecaaBackSpec
import Derived.Test.YtedmancgpjpecaaAudSame
import Derived.Test.YtedmancgpjpecaaLawKit
namespace Go.Proofs.Ytedmancgpjpecaa
open Go.RowKit
open Go.Lib (hid)

theorem fit_of {ds fs : List FactD} (h : fs.map (·.v) = ds.map (·.v)) (hd : ∀ d ∈ ds, tameV d.v) (hl : ∀ d ∈ ds, d.v.ims.length ≤ 1048576) : ∀ d ∈ fs, FitV d.v := by
  intro d hf
  have h1 : d.v ∈ ds.map (·.v) := by rw [← h]; exact List.mem_map_of_mem hf
  obtain ⟨e, he, hv⟩ := List.mem_map.1 h1
  rw [← hv]
  exact ⟨(hd e he).2.1, hl e he⟩

set_option maxRecDepth 20000 in
set_option maxHeartbeats 4000000 in
theorem law_backed (ds : List FactD) (ls : List ImageD) (hd : ∀ d ∈ ds, tameV d.v) (hs : ∀ e ∈ ls, tameImage e) (hm : ds.length ≤ maxLen) (hml : ls.length ≤ maxLen) (a b : Value) (w : World) (ha : FactsIn w a ds) (hb : FArg encImage 2 w b ls) :
    Calls Try.prog 4 #[a, b] w fun e w' => e = .returned (.bool true) ∧ Below w.heap.size w w' := by
  have HFa := hid ha
  have HFb := hid hb
  have HTD := hid hd
  have HTS := hid hs
  have CZ := hid (fun a W (ha : FactsIn W a ds) => sz_Facts ds hd hm 1048576 (Nat.le_refl _) a W ha)
  have CY := hid (fun k hk a W (ha : FArg encImage 2 W a ls) => sz_Images ls hs hml k hk a W ha)
  obtain ⟨⟨p0, c0, rfl, _⟩, _⟩ := ha
  obtain ⟨q0, d0, rfl, _⟩ := hb
  clear hd hs
  have HB0_0 : Hid (Below w.heap.size w w) := hid (Below.refl _ _)
  have hz0 : w.heap.size ≤ w.heap.size := Nat.le_refl _
  go_enter Try.func4, Try.ntmps4
  go_wp2_with (go_at_call 10; refine (CZ.out _ _ (HFa.out.on HB0_0.out)).mono ?_; rintro e w1 ⟨⟨r, rfl, hr⟩, hb1⟩; refine Hid.out ?_)
  refine hid ?_
  have hz1 := hb1.size
  have HB0_1 := hid (HB0_0.out.trans (hb1.mono HB0_0.out.size))
  clear hb1
  rcases hr with hr | ⟨hr, htot⟩
  · go_wp2
    go_ret
    exact ⟨rfl, HB0_1.out⟩
  · skip
    obtain ⟨k, rfl⟩ := Int.eq_ofNat_of_zero_le hr
    have hk : k ≤ 1048576 := by omega
    have hr2 : ¬ (k : Int) < 0 := by omega
    have hn1 : ds.length ≤ 1048576 := by omega
    have HIM := hid (used_ims (ds := ds) (n := 1048576) (by omega))
    clear htot hr
    go_wp2_with (go_at_call 15; refine (CY.out k hk _ _ (HFb.out.on HB0_1.out)).mono ?_; rintro e w2 ⟨⟨q, rfl, hq⟩, hb2⟩; refine Hid.out ?_)
    refine hid ?_
    have hz2 := hb2.size
    have HB0_2 := hid (HB0_1.out.trans (hb2.mono HB0_1.out.size))
    clear HB0_1
    clear hb2
    rcases hq with hq | ⟨hq, htot⟩
    · go_wp2
      go_ret
      exact ⟨rfl, HB0_2.out⟩
    · skip
      have hq2 : ¬ q < 0 := by omega
      have hn2 : ls.length ≤ 1048576 := by omega
      clear htot hq
      go_wp2_with (go_at_call 12; refine (to_Facts ds hn1 HIM.out _ _ (HFa.out.on HB0_2.out)).mono ?_; rintro e w3 ⟨f1, hf1, rfl, hb3, ho3⟩; refine Hid.out ?_)
      refine hid ?_
      have hz3 := hb3.size
      have HB0_3 := hid (HB0_2.out.trans (hb3.mono HB0_2.out.size))
      clear HB0_2
      have HB3_3 : Hid (Below w3.heap.size w3 w3) := hid (Below.refl _ _)
      have HFt1 := hid (ho3.at)
      have HM1 := hid hf1
      have hl1 : f1.length ≤ 1048576 := by rw [same_len hf1]; exact hn1
      have HT1 := hid (fit_of hf1 HTD.out HIM.out)
      clear ho3 hf1
      clear hb3
      go_wp2_with (go_at_call 17; refine (to_Images ls hn2 _ _ (HFb.out.on HB0_3.out)).mono ?_; rintro e w4 ⟨rfl, hb4, ho4⟩; refine Hid.out ?_)
      refine hid ?_
      have hz4 := hb4.size
      have HB0_4 := hid (HB0_3.out.trans (hb4.mono HB0_3.out.size))
      have HB3_4 := hid (HB3_3.out.trans (hb4.mono HB3_3.out.size))
      clear HB0_3 HB3_3
      have HB4_4 : Hid (Below w4.heap.size w4 w4) := hid (Below.refl _ _)
      have HOu1_4 := hid ho4
      have HLu1 := hid (ho4.lt)
      clear hb4 ho4
      go_wp2_with (go_at_call 16; refine (backed_spec f1 hl1 HT1.out ls hn2 _ _ _ (HFt1.out.on HB3_4.out) (row_of_own encImage_len HOu1_4.out)).mono ?_; rintro e w5 ⟨⟨r1, rfl, hr1⟩, hb5⟩; refine Hid.out ?_)
      refine hid ?_
      have hz5 := hb5.size
      have HB0_5 := hid (HB0_4.out.trans (hb5.mono HB0_4.out.size))
      have HB3_5 := hid (HB3_4.out.trans (hb5.mono HB3_4.out.size))
      have HB4_5 := hid (HB4_4.out.trans (hb5.mono HB4_4.out.size))
      have HOu1_5 := hid (own_below HOu1_4.out hb5)
      clear HB0_4 HB3_4 HB4_4 HOu1_4
      have HR1 := hid hr1
      clear hr1
      clear hb5
      go_wp2_with (go_at_call 12; refine (to_Facts ds hn1 HIM.out _ _ (HFa.out.on HB0_5.out)).mono ?_; rintro e w6 ⟨f2, hf2, rfl, hb6, ho6⟩; refine Hid.out ?_)
      refine hid ?_
      have hz6 := hb6.size
      have HB0_6 := hid (HB0_5.out.trans (hb6.mono HB0_5.out.size))
      have HB3_6 := hid (HB3_5.out.trans (hb6.mono HB3_5.out.size))
      have HB4_6 := hid (HB4_5.out.trans (hb6.mono HB4_5.out.size))
      clear HB0_5 HB3_5 HB4_5
      have HB6_6 : Hid (Below w6.heap.size w6 w6) := hid (Below.refl _ _)
      have HFx0 := hid (ho6.at)
      have HM2 := hid hf2
      have hl2 : f2.length ≤ 1048576 := by rw [same_len hf2]; exact hn1
      have HT2 := hid (fit_of hf2 HTD.out HIM.out)
      clear ho6 hf2
      clear hb6
      go_wp2_with (go_at_call 17; refine (to_Images ls hn2 _ _ (HFb.out.on HB0_6.out)).mono ?_; rintro e w7 ⟨rfl, hb7, ho7⟩; refine Hid.out ?_)
      refine hid ?_
      have hz7 := hb7.size
      have HB0_7 := hid (HB0_6.out.trans (hb7.mono HB0_6.out.size))
      have HB3_7 := hid (HB3_6.out.trans (hb7.mono HB3_6.out.size))
      have HB4_7 := hid (HB4_6.out.trans (hb7.mono HB4_6.out.size))
      have HB6_7 := hid (HB6_6.out.trans (hb7.mono HB6_6.out.size))
      clear HB0_6 HB3_6 HB4_6 HB6_6
      have HB7_7 : Hid (Below w7.heap.size w7 w7) := hid (Below.refl _ _)
      have HOx1_7 := hid ho7
      have HLx1 := hid (ho7.lt)
      clear hb7 ho7
      go_wp2_with (go_at_call 18; refine (backed_impl f2 hl2 HT2.out ls hn2 HTS.out _ _ _ (HFx0.out.on HB6_7.out) (row_of_own encImage_len HOx1_7.out)).mono ?_; rintro e w8 ⟨⟨r3, rfl, hr3⟩, hb8⟩; refine Hid.out ?_)
      refine hid ?_
      have hz8 := hb8.size
      have HB0_8 := hid (HB0_7.out.trans (hb8.mono HB0_7.out.size))
      have HB3_8 := hid (HB3_7.out.trans (hb8.mono HB3_7.out.size))
      have HB4_8 := hid (HB4_7.out.trans (hb8.mono HB4_7.out.size))
      have HB6_8 := hid (HB6_7.out.trans (hb8.mono HB6_7.out.size))
      have HB7_8 := hid (HB7_7.out.trans (hb8.mono HB7_7.out.size))
      have HOx1_8 := hid (own_below HOx1_7.out hb8)
      clear HB0_7 HB3_7 HB4_7 HB6_7 HB7_7 HOx1_7
      have HR2 := hid hr3
      clear hr3
      clear hb8
      obtain rfl : r3 = r1 := by
        have h1 := HR1.out
        have h2 := HR2.out.congr (V := backW ls) (back_same ls)
        rw [HM1.out] at h1
        rw [HM2.out] at h2
        exact h2.one h1
      have hrr : (r3 != r3) = false := by simp
      go_wp2_with (go_at_call 12; refine (to_Facts ds hn1 HIM.out _ _ (HFa.out.on HB0_8.out)).mono ?_; rintro e w9 ⟨f3, hf3, rfl, hb9, ho9⟩; refine Hid.out ?_)
      refine hid ?_
      have hz9 := hb9.size
      have HB0_9 := hid (HB0_8.out.trans (hb9.mono HB0_8.out.size))
      have HB3_9 := hid (HB3_8.out.trans (hb9.mono HB3_8.out.size))
      have HB4_9 := hid (HB4_8.out.trans (hb9.mono HB4_8.out.size))
      have HB6_9 := hid (HB6_8.out.trans (hb9.mono HB6_8.out.size))
      have HB7_9 := hid (HB7_8.out.trans (hb9.mono HB7_8.out.size))
      have HOx1_9 := hid (own_below HOx1_8.out hb9)
      clear HB0_8 HB3_8 HB4_8 HB6_8 HB7_8 HOx1_8
      have HB9_9 : Hid (Below w9.heap.size w9 w9) := hid (Below.refl _ _)
      have HFt3 := hid (ho9.at)
      have HM3 := hid hf3
      have hl3 : f3.length ≤ 1048576 := by rw [same_len hf3]; exact hn1
      have HT3 := hid (fit_of hf3 HTD.out HIM.out)
      clear ho9 hf3
      clear hb9
      go_wp2_with (go_at_call 14; refine (eq_Facts f2 f3 (by omega) (by rw [HM2.out, HM3.out]) (fun d hd => Nat.le_trans (same_ims HM2.out HIM.out d hd) (by omega)) _ _ _ (HFx0.out.on HB6_9.out) (HFt3.out.on HB9_9.out)).mono ?_; rintro e w10 ⟨rfl, hb10⟩; refine Hid.out ?_)
      refine hid ?_
      have hz10 := hb10.size
      have HB0_10 := hid (HB0_9.out.trans (hb10.mono HB0_9.out.size))
      have HB3_10 := hid (HB3_9.out.trans (hb10.mono HB3_9.out.size))
      have HB4_10 := hid (HB4_9.out.trans (hb10.mono HB4_9.out.size))
      have HB6_10 := hid (HB6_9.out.trans (hb10.mono HB6_9.out.size))
      have HB7_10 := hid (HB7_9.out.trans (hb10.mono HB7_9.out.size))
      have HB9_10 := hid (HB9_9.out.trans (hb10.mono HB9_9.out.size))
      have HOx1_10 := hid (own_below HOx1_9.out hb10)
      clear HB0_9 HB3_9 HB4_9 HB6_9 HB7_9 HB9_9 HOx1_9
      clear hb10
      go_wp2_with (go_at_call 17; refine (to_Images ls hn2 _ _ (HFb.out.on HB0_10.out)).mono ?_; rintro e w11 ⟨rfl, hb11, ho11⟩; refine Hid.out ?_)
      refine hid ?_
      have hz11 := hb11.size
      have HB0_11 := hid (HB0_10.out.trans (hb11.mono HB0_10.out.size))
      have HB3_11 := hid (HB3_10.out.trans (hb11.mono HB3_10.out.size))
      have HB4_11 := hid (HB4_10.out.trans (hb11.mono HB4_10.out.size))
      have HB6_11 := hid (HB6_10.out.trans (hb11.mono HB6_10.out.size))
      have HB7_11 := hid (HB7_10.out.trans (hb11.mono HB7_10.out.size))
      have HB9_11 := hid (HB9_10.out.trans (hb11.mono HB9_10.out.size))
      have HOx1_11 := hid (own_below HOx1_10.out hb11)
      clear HB0_10 HB3_10 HB4_10 HB6_10 HB7_10 HB9_10 HOx1_10
      have HB11_11 : Hid (Below w11.heap.size w11 w11) := hid (Below.refl _ _)
      have HOu3_11 := hid ho11
      have HLu3 := hid (ho11.lt)
      clear hb11 ho11
      go_wp2_with (go_at_call 19; refine (eq_Images ls (by omega) _ _ _ (row_of_own encImage_len HOx1_11.out) (row_of_own encImage_len HOu3_11.out)).mono ?_; rintro e w12 ⟨rfl, hb12⟩; refine Hid.out ?_)
      refine hid ?_
      have hz12 := hb12.size
      have HB0_12 := hid (HB0_11.out.trans (hb12.mono HB0_11.out.size))
      have HB3_12 := hid (HB3_11.out.trans (hb12.mono HB3_11.out.size))
      have HB4_12 := hid (HB4_11.out.trans (hb12.mono HB4_11.out.size))
      have HB6_12 := hid (HB6_11.out.trans (hb12.mono HB6_11.out.size))
      have HB7_12 := hid (HB7_11.out.trans (hb12.mono HB7_11.out.size))
      have HB9_12 := hid (HB9_11.out.trans (hb12.mono HB9_11.out.size))
      have HB11_12 := hid (HB11_11.out.trans (hb12.mono HB11_11.out.size))
      have HOx1_12 := hid (own_below HOx1_11.out hb12)
      have HOu3_12 := hid (own_below HOu3_11.out hb12)
      clear HB0_11 HB3_11 HB4_11 HB6_11 HB7_11 HB9_11 HB11_11 HOx1_11 HOu3_11
      clear hb12
      go_wp2
      go_ret
      exact ⟨rfl, HB0_12.out⟩
end Go.Proofs.Ytedmancgpjpecaa
