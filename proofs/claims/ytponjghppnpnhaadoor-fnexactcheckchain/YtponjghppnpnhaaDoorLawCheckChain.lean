/- The law on CheckChain, walked: it answers true. -/
import Derived.Test.YtponjghppnpnhaaDoorPackChk
import Derived.Test.YtponjghppnpnhaaDoorLawKit
namespace Go.Proofs.YtponjghppnpnhaaDoor
open Go.RowKit
open Go.Lib (hid)

set_option maxRecDepth 20000 in
set_option maxHeartbeats 4000000 in
theorem law_checkchain (root : ByteArray) (es : List CertD) (ht : ∀ e ∈ es, tameCert e) (hm : es.length ≤ maxLen) (now : Int) (a : Value) (w : World) (ha : FArg encCert 5 w a es) (hT : Tab w) (hG : 0 < w.heap.size) (hP : Lib.TabIs Tryd.prog w "internal/strconv.uint64pow10" .u64 Lib.pow10Tab) :
    Calls Tryd.prog 5 #[.string root, a, .int .i64 now] w fun e w' => e = .returned (.bool true) ∧ Below w.heap.size w w' := by
  have HFa := hid ha
  have HTAB := hid hT
  have HPW := hid hP
  have CZ := hid (fun a W (ha : FArg encCert 5 W a es) => sz_Certs es ht hm 1048576 (Nat.le_refl _) a W ha)
  obtain ⟨p0, c0, rfl, _⟩ := ha
  clear ht hT hP
  by_cases hr1 : root.size ≤ 1048576
  · have g1 : ¬ (root.size : Int) > 1048576 := by omega
    have HB0_0 : Hid (Below w.heap.size w w) := hid (Below.refl _ _)
    have hz0 : w.heap.size ≤ w.heap.size := Nat.le_refl _
    go_enter Tryd.func5, Tryd.ntmps5
    go_wp2_with (go_at_call 21; refine (CZ.out _ _ (HFa.out.on HB0_0.out)).mono ?_; rintro e w1 ⟨⟨r, rfl, hr⟩, hb1⟩; refine Hid.out ?_)
    refine hid ?_
    have hz1 := hb1.size
    have HB0_1 := hid (HB0_0.out.trans (hb1.mono HB0_0.out.size))
    clear hb1
    rcases hr with hr | ⟨hr, htot⟩
    · go_wp2
      go_ret
      exact ⟨rfl, HB0_1.out⟩
    · skip
      have hr2 : ¬ r < 0 := by omega
      have hn1 : es.length ≤ 1048576 := by omega
      have hs1 : ∀ e ∈ es, e.x1.size ≤ 1048576 ∧ e.x4.size ≤ 1048576 := fun e he => by have h := used_mem (sz := szCertN) he; unfold szCertN at h htot; omega
      have CS := hid (fun a W ha => chain_spec root es hn1 hs1 now a W ha)
      have CI := hid (fun a W ha hT hG hP => chain_impl root es hn1 now a W ha hT hG hP)
      unfold ChainPost at CS CI
      generalize (chainO root es now).2.1 = b1 at *
      generalize (chainO root es now).2.2 = b2 at *
      generalize (chainO root es now).1 = t at *
      have hbb1 : (b1 != b1) = false := by simp
      have hbb2 : (b2 != b2) = false := by simp
      have htt : (t.toList == t.toList) = true := by simp
      have htn : (t.toList != t.toList) = false := by simp
      clear htot hr hs1
      go_wp2_with (go_at_call 23; refine (to_Certs es hn1 _ _ (HFa.out.on HB0_1.out)).mono ?_; rintro e w2 ⟨rfl, hb2, ho2⟩; refine Hid.out ?_)
      refine hid ?_
      have hz2 := hb2.size
      have HB0_2 := hid (HB0_1.out.trans (hb2.mono HB0_1.out.size))
      clear HB0_1
      have HB2_2 : Hid (Below w2.heap.size w2 w2) := hid (Below.refl _ _)
      have HOt1_2 := hid ho2
      have HLt1 := hid (ho2.lt)
      clear hb2 ho2
      go_wp2_with (go_at_call 22; refine (CS.out _ _ (row_of_own encCert_len HOt1_2.out)).mono ?_; rintro e w3 ⟨rfl, hb3⟩; refine Hid.out ?_)
      refine hid ?_
      have hz3 := hb3.size
      have HB0_3 := hid (HB0_2.out.trans (hb3.mono HB0_2.out.size))
      have HB2_3 := hid (HB2_2.out.trans (hb3.mono HB2_2.out.size))
      have HOt1_3 := hid (own_below HOt1_2.out hb3)
      clear HB0_2 HB2_2 HOt1_2
      clear hb3
      go_wp2_with (go_at_call 23; refine (to_Certs es hn1 _ _ (HFa.out.on HB0_3.out)).mono ?_; rintro e w4 ⟨rfl, hb4, ho4⟩; refine Hid.out ?_)
      refine hid ?_
      have hz4 := hb4.size
      have HB0_4 := hid (HB0_3.out.trans (hb4.mono HB0_3.out.size))
      have HB2_4 := hid (HB2_3.out.trans (hb4.mono HB2_3.out.size))
      clear HB0_3 HB2_3
      have HB4_4 : Hid (Below w4.heap.size w4 w4) := hid (Below.refl _ _)
      have HOx1_4 := hid ho4
      have HLx1 := hid (ho4.lt)
      clear hb4 ho4
      go_wp2_with (go_at_call 24; refine (CI.out _ _ (row_of_own encCert_len HOx1_4.out) (tab_on HTAB.out hG HB0_4.out) (Nat.lt_of_lt_of_le hG HB0_4.out.size) (Num.tab_stays HB0_4.out HPW.out)).mono ?_; rintro e w5 ⟨rfl, hb5⟩; refine Hid.out ?_)
      refine hid ?_
      have hz5 := hb5.size
      have HB0_5 := hid (HB0_4.out.trans (hb5.mono HB0_4.out.size))
      have HB2_5 := hid (HB2_4.out.trans (hb5.mono HB2_4.out.size))
      have HB4_5 := hid (HB4_4.out.trans (hb5.mono HB4_4.out.size))
      have HOx1_5 := hid (own_below HOx1_4.out hb5)
      clear HB0_4 HB2_4 HB4_4 HOx1_4
      clear hb5
      go_wp2_with (go_at_call 23; refine (to_Certs es hn1 _ _ (HFa.out.on HB0_5.out)).mono ?_; rintro e w6 ⟨rfl, hb6, ho6⟩; refine Hid.out ?_)
      refine hid ?_
      have hz6 := hb6.size
      have HB0_6 := hid (HB0_5.out.trans (hb6.mono HB0_5.out.size))
      have HB2_6 := hid (HB2_5.out.trans (hb6.mono HB2_5.out.size))
      have HB4_6 := hid (HB4_5.out.trans (hb6.mono HB4_5.out.size))
      have HOx1_6 := hid (own_below HOx1_5.out hb6)
      clear HB0_5 HB2_5 HB4_5 HOx1_5
      have HB6_6 : Hid (Below w6.heap.size w6 w6) := hid (Below.refl _ _)
      have HOt2_6 := hid ho6
      have HLt2 := hid (ho6.lt)
      clear hb6 ho6
      go_wp2_with (go_at_call 25; refine (eq_Certs es (by omega) _ _ _ (row_of_own encCert_len HOx1_6.out) (row_of_own encCert_len HOt2_6.out)).mono ?_; rintro e w7 ⟨rfl, hb7⟩; refine Hid.out ?_)
      refine hid ?_
      have hz7 := hb7.size
      have HB0_7 := hid (HB0_6.out.trans (hb7.mono HB0_6.out.size))
      have HB2_7 := hid (HB2_6.out.trans (hb7.mono HB2_6.out.size))
      have HB4_7 := hid (HB4_6.out.trans (hb7.mono HB4_6.out.size))
      have HB6_7 := hid (HB6_6.out.trans (hb7.mono HB6_6.out.size))
      have HOx1_7 := hid (own_below HOx1_6.out hb7)
      have HOt2_7 := hid (own_below HOt2_6.out hb7)
      clear HB0_6 HB2_6 HB4_6 HB6_6 HOx1_6 HOt2_6
      clear hb7
      go_wp2
      go_ret
      exact ⟨rfl, HB0_7.out⟩
  · have hd : (root.size : Int) > 1048576 := by omega
    go_enter Tryd.func5, Tryd.ntmps5
    go_wp2
    go_ret
    exact ⟨rfl, Below.refl _ _⟩
end Go.Proofs.YtponjghppnpnhaaDoor
