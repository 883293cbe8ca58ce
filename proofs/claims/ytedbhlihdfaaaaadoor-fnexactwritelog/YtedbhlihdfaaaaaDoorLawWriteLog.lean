/- The law on WriteLog, walked: it answers true. -/
import Derived.Test.YtedbhlihdfaaaaaDoorLogSpec
import Derived.Test.YtedbhlihdfaaaaaDoorLogImpl
import Derived.Test.YtedbhlihdfaaaaaDoorLawKit
namespace Go.Proofs.YtedbhlihdfaaaaaDoor
open Go.RowKit
open Go.Lib (hid)

theorem bmarks_row {w : World} {base k n : Nat} {a : Value} (h : w.ownsRow base 5 1 a n (bys (bmarks k n))) : RowB w a (bmarks k n) := row_b_own2 (bmarks_len k n).symm h

set_option maxRecDepth 20000 in
set_option maxHeartbeats 4000000 in
theorem law_writelog (es : List EventD) (ht : ∀ e ∈ es, tameEvent e) (hm : es.length ≤ maxLen) (a : Value) (w : World) (ha : FArg encEvent 2 w a es) (hT : Tab w) (hG : 0 < w.heap.size) :
    Calls Tryd.prog 4 #[a] w fun e w' => e = .returned (.bool true) ∧ Below w.heap.size w w' := by
  have HFa := hid ha
  have HTAB := hid hT
  have CZ := hid (fun a W (ha : FArg encEvent 2 W a es) => sz_Events es ht hm 1048576 (Nat.le_refl _) a W ha)
  obtain ⟨p0, c0, rfl, _⟩ := ha
  clear ht hT
  have HB0_0 : Hid (Below w.heap.size w w) := hid (Below.refl _ _)
  have hz0 : w.heap.size ≤ w.heap.size := Nat.le_refl _
  go_enter Tryd.func4, Tryd.ntmps4
  go_wp2_with (go_at_call 22; refine (CZ.out _ _ (HFa.out.on HB0_0.out)).mono ?_; rintro e w1 ⟨⟨r, rfl, hr⟩, hb1⟩; refine Hid.out ?_)
  refine hid ?_
  have hz1 := hb1.size
  have HB0_1 := hid (HB0_0.out.trans (hb1.mono HB0_0.out.size))
  clear hb1
  rcases hr with hr | ⟨hr, htot⟩
  · go_wp2
    go_ret
    exact ⟨rfl, HB0_1.out⟩
  · skip
    have hr2 : ¬ r < 0 := by omega
    have hn1 : es.length ≤ 1048576 := by omega
    have hs1 : ∀ e ∈ es, e.x1.size ≤ 1048576 := fun e he => by have h := used_mem (sz := szEventN) he; unfold szEventN at h htot; omega
    have hfew := logO_len es
    have CS := hid (fun a W ha => log_spec es hs1 hn1 a W ha)
    have CI := hid (fun a W ha hT hG => log_impl es hs1 hn1 a W ha hT hG)
    unfold LogPost at CS CI
    generalize logO es = L at *
    have hmm : ¬ ((1 + 2 * es.length : Nat) : Int) < 0 := by omega
    have hmn : ¬ ((1 + L.length : Nat) : Int) < 0 := by omega
    clear htot hr hs1
    go_wp2_with (go_at_call 24; refine (to_Events es hn1 _ _ (HFa.out.on HB0_1.out)).mono ?_; rintro e w2 ⟨rfl, hb2, ho2⟩; refine Hid.out ?_)
    refine hid ?_
    have hz2 := hb2.size
    have HB0_2 := hid (HB0_1.out.trans (hb2.mono HB0_1.out.size))
    clear HB0_1
    have HB2_2 : Hid (Below w2.heap.size w2 w2) := hid (Below.refl _ _)
    have HOt1_2 := hid ho2
    have HLt1 := hid (ho2.lt)
    clear hb2 ho2
    go_wp2_with (go_at_call 23; refine (CS.out _ _ (row_of_own encEvent_len HOt1_2.out)).mono ?_; rintro e w3 ⟨sv3, rfl, hb3, ho3⟩; refine Hid.out ?_)
    refine hid ?_
    have hz3 := hb3.size
    have HB0_3 := hid (HB0_2.out.trans (hb3.mono HB0_2.out.size))
    have HB2_3 := hid (HB2_2.out.trans (hb3.mono HB2_2.out.size))
    have HOt1_3 := hid (own_below HOt1_2.out hb3)
    clear HB0_2 HB2_2 HOt1_2
    have HB3_3 : Hid (Below w3.heap.size w3 w3) := hid (Below.refl _ _)
    have HOw0_3 := hid ho3
    have HLw0 := hid (ho3.lt)
    clear hb3 ho3
    go_wp2_with (go_at_call 24; refine (to_Events es hn1 _ _ (HFa.out.on HB0_3.out)).mono ?_; rintro e w4 ⟨rfl, hb4, ho4⟩; refine Hid.out ?_)
    refine hid ?_
    have hz4 := hb4.size
    have HB0_4 := hid (HB0_3.out.trans (hb4.mono HB0_3.out.size))
    have HB2_4 := hid (HB2_3.out.trans (hb4.mono HB2_3.out.size))
    have HB3_4 := hid (HB3_3.out.trans (hb4.mono HB3_3.out.size))
    have HOw0_4 := hid (own_below HOw0_3.out hb4)
    clear HB0_3 HB2_3 HB3_3 HOw0_3
    have HB4_4 : Hid (Below w4.heap.size w4 w4) := hid (Below.refl _ _)
    have HOx0_4 := hid ho4
    have HLx0 := hid (ho4.lt)
    clear hb4 ho4
    go_wp2_with (go_at_call 25; refine (CI.out _ _ (row_of_own encEvent_len HOx0_4.out) (tab_on HTAB.out hG HB0_4.out) (Nat.lt_of_lt_of_le hG HB0_4.out.size)).mono ?_; rintro e w5 ⟨sv5, rfl, hb5, ho5⟩; refine Hid.out ?_)
    refine hid ?_
    have hz5 := hb5.size
    have HB0_5 := hid (HB0_4.out.trans (hb5.mono HB0_4.out.size))
    have HB2_5 := hid (HB2_4.out.trans (hb5.mono HB2_4.out.size))
    have HB3_5 := hid (HB3_4.out.trans (hb5.mono HB3_4.out.size))
    have HB4_5 := hid (HB4_4.out.trans (hb5.mono HB4_4.out.size))
    have HOw0_5 := hid (own_below HOw0_4.out hb5)
    have HOx0_5 := hid (own_below HOx0_4.out hb5)
    clear HB0_4 HB2_4 HB3_4 HB4_4 HOw0_4 HOx0_4
    have HB5_5 : Hid (Below w5.heap.size w5 w5) := hid (Below.refl _ _)
    have HOg0_5 := hid ho5
    have HLg0 := hid (ho5.lt)
    clear hb5 ho5
    go_wp2_with (go_at_call 26; refine (eq_bytes L (by omega) _ _ _ (row_b_own HOg0_5.out) (row_b_own HOw0_5.out)).mono ?_; rintro e w6 ⟨rfl, hb6⟩; refine Hid.out ?_)
    refine hid ?_
    have hz6 := hb6.size
    have HB0_6 := hid (HB0_5.out.trans (hb6.mono HB0_5.out.size))
    have HB2_6 := hid (HB2_5.out.trans (hb6.mono HB2_5.out.size))
    have HB3_6 := hid (HB3_5.out.trans (hb6.mono HB3_5.out.size))
    have HB4_6 := hid (HB4_5.out.trans (hb6.mono HB4_5.out.size))
    have HB5_6 := hid (HB5_5.out.trans (hb6.mono HB5_5.out.size))
    have HOw0_6 := hid (own_below HOw0_5.out hb6)
    have HOx0_6 := hid (own_below HOx0_5.out hb6)
    have HOg0_6 := hid (own_below HOg0_5.out hb6)
    clear HB0_5 HB2_5 HB3_5 HB4_5 HB5_5 HOw0_5 HOx0_5 HOg0_5
    clear hb6
    go_wp2_with (go_at_call 24; refine (to_Events es hn1 _ _ (HFa.out.on HB0_6.out)).mono ?_; rintro e w7 ⟨rfl, hb7, ho7⟩; refine Hid.out ?_)
    refine hid ?_
    have hz7 := hb7.size
    have HB0_7 := hid (HB0_6.out.trans (hb7.mono HB0_6.out.size))
    have HB2_7 := hid (HB2_6.out.trans (hb7.mono HB2_6.out.size))
    have HB3_7 := hid (HB3_6.out.trans (hb7.mono HB3_6.out.size))
    have HB4_7 := hid (HB4_6.out.trans (hb7.mono HB4_6.out.size))
    have HB5_7 := hid (HB5_6.out.trans (hb7.mono HB5_6.out.size))
    have HOw0_7 := hid (own_below HOw0_6.out hb7)
    have HOx0_7 := hid (own_below HOx0_6.out hb7)
    have HOg0_7 := hid (own_below HOg0_6.out hb7)
    clear HB0_6 HB2_6 HB3_6 HB4_6 HB5_6 HOw0_6 HOx0_6 HOg0_6
    have HB7_7 : Hid (Below w7.heap.size w7 w7) := hid (Below.refl _ _)
    have HOt2_7 := hid ho7
    have HLt2 := hid (ho7.lt)
    clear hb7 ho7
    go_wp2_with (go_at_call 27; refine (eq_Events es (by omega) _ _ _ (row_of_own encEvent_len HOx0_7.out) (row_of_own encEvent_len HOt2_7.out)).mono ?_; rintro e w8 ⟨rfl, hb8⟩; refine Hid.out ?_)
    refine hid ?_
    have hz8 := hb8.size
    have HB0_8 := hid (HB0_7.out.trans (hb8.mono HB0_7.out.size))
    have HB2_8 := hid (HB2_7.out.trans (hb8.mono HB2_7.out.size))
    have HB3_8 := hid (HB3_7.out.trans (hb8.mono HB3_7.out.size))
    have HB4_8 := hid (HB4_7.out.trans (hb8.mono HB4_7.out.size))
    have HB5_8 := hid (HB5_7.out.trans (hb8.mono HB5_7.out.size))
    have HB7_8 := hid (HB7_7.out.trans (hb8.mono HB7_7.out.size))
    have HOw0_8 := hid (own_below HOw0_7.out hb8)
    have HOx0_8 := hid (own_below HOx0_7.out hb8)
    have HOg0_8 := hid (own_below HOg0_7.out hb8)
    have HOt2_8 := hid (own_below HOt2_7.out hb8)
    clear HB0_7 HB2_7 HB3_7 HB4_7 HB5_7 HB7_7 HOw0_7 HOx0_7 HOg0_7 HOt2_7
    clear hb8
    go_wp2_with (go_at_call 28; refine (mark_Events es 1 (by omega) (by omega) _ _ _ HOx0_8.out).mono ?_; rintro e w9 ⟨rfl, hg9, ho9⟩; refine Hid.out ?_)
    refine hid ?_
    have hz9 := hg9.size
    have HB0_9 := hid (HB0_8.out.trans (grown_to hg9 HB0_8.out.size (fun k hk => by have := (HLx0.out k hk).1; omega)))
    have HB2_9 := hid (HB2_8.out.trans (grown_to hg9 HB2_8.out.size (fun k hk => by have := (HLx0.out k hk).1; omega)))
    have HB3_9 := hid (HB3_8.out.trans (grown_to hg9 HB3_8.out.size (fun k hk => by have := (HLx0.out k hk).1; omega)))
    have HOw0_9 := hid (HOw0_8.out.kept hg9 (kept_apart HLw0.out HLx0.out (by omega)))
    have HOg0_9 := hid (HOg0_8.out.kept hg9 (kept_apart HLg0.out HLx0.out (by omega)))
    have HOx0_9 := hid ho9
    clear HB0_8 HB2_8 HB3_8 HB4_8 HB5_8 HB7_8 HOw0_8 HOx0_8 HOg0_8
    clear hg9 ho9
    go_wp2_with (go_at_call 26; refine (eq_bytes L (by omega) _ _ _ (row_b_own HOg0_9.out) (row_b_own HOw0_9.out)).mono ?_; rintro e w10 ⟨rfl, hb10⟩; refine Hid.out ?_)
    refine hid ?_
    have hz10 := hb10.size
    have HB0_10 := hid (HB0_9.out.trans (hb10.mono HB0_9.out.size))
    have HB2_10 := hid (HB2_9.out.trans (hb10.mono HB2_9.out.size))
    have HB3_10 := hid (HB3_9.out.trans (hb10.mono HB3_9.out.size))
    have HOw0_10 := hid (own_below HOw0_9.out hb10)
    have HOg0_10 := hid (own_below HOg0_9.out hb10)
    clear HB0_9 HB2_9 HB3_9 HOw0_9 HOg0_9
    clear hb10
    go_wp2_with (go_at_call 29; refine (mark_bytes L 1 (by omega) _ _ _ HOg0_10.out).mono ?_; rintro e w11 ⟨rfl, hg11, ho11⟩; refine Hid.out ?_)
    refine hid ?_
    have hz11 := hg11.size
    have HB0_11 := hid (HB0_10.out.trans (grown_to hg11 HB0_10.out.size (fun k hk => by have := (HLg0.out k hk).1; omega)))
    have HB2_11 := hid (HB2_10.out.trans (grown_to hg11 HB2_10.out.size (fun k hk => by have := (HLg0.out k hk).1; omega)))
    have HB3_11 := hid (HB3_10.out.trans (grown_to hg11 HB3_10.out.size (fun k hk => by have := (HLg0.out k hk).1; omega)))
    have HOw0_11 := hid (HOw0_10.out.kept hg11 (kept_apart HLw0.out HLg0.out (by omega)))
    have HOg0_11 := hid ho11
    clear HB0_10 HB2_10 HB3_10 HOw0_10 HOg0_10
    clear hg11 ho11
    go_wp2_with (go_at_call 30; refine (held_bytes 1 L.length (by omega) _ _ (bmarks_row HOg0_11.out)).mono ?_; rintro e w12 ⟨rfl, hb12⟩; refine Hid.out ?_)
    refine hid ?_
    have hz12 := hb12.size
    have HB0_12 := hid (HB0_11.out.trans (hb12.mono HB0_11.out.size))
    have HB2_12 := hid (HB2_11.out.trans (hb12.mono HB2_11.out.size))
    have HB3_12 := hid (HB3_11.out.trans (hb12.mono HB3_11.out.size))
    have HOw0_12 := hid (own_below HOw0_11.out hb12)
    have HOg0_12 := hid (own_below HOg0_11.out hb12)
    clear HB0_11 HB2_11 HB3_11 HOw0_11 HOg0_11
    clear hb12
    go_wp2_with (go_at_call 24; refine (to_Events es hn1 _ _ (HFa.out.on HB0_12.out)).mono ?_; rintro e w13 ⟨rfl, hb13, ho13⟩; refine Hid.out ?_)
    refine hid ?_
    have hz13 := hb13.size
    have HB0_13 := hid (HB0_12.out.trans (hb13.mono HB0_12.out.size))
    have HB2_13 := hid (HB2_12.out.trans (hb13.mono HB2_12.out.size))
    have HB3_13 := hid (HB3_12.out.trans (hb13.mono HB3_12.out.size))
    have HOw0_13 := hid (own_below HOw0_12.out hb13)
    have HOg0_13 := hid (own_below HOg0_12.out hb13)
    clear HB0_12 HB2_12 HB3_12 HOw0_12 HOg0_12
    have HB13_13 : Hid (Below w13.heap.size w13 w13) := hid (Below.refl _ _)
    have HOt3_13 := hid ho13
    have HLt3 := hid (ho13.lt)
    clear hb13 ho13
    go_wp2_with (go_at_call 25; refine (CI.out _ _ (row_of_own encEvent_len HOt3_13.out) (tab_on HTAB.out hG HB0_13.out) (Nat.lt_of_lt_of_le hG HB0_13.out.size)).mono ?_; rintro e w14 ⟨sv14, rfl, hb14, ho14⟩; refine Hid.out ?_)
    refine hid ?_
    have hz14 := hb14.size
    have HB0_14 := hid (HB0_13.out.trans (hb14.mono HB0_13.out.size))
    have HB2_14 := hid (HB2_13.out.trans (hb14.mono HB2_13.out.size))
    have HB3_14 := hid (HB3_13.out.trans (hb14.mono HB3_13.out.size))
    have HB13_14 := hid (HB13_13.out.trans (hb14.mono HB13_13.out.size))
    have HOw0_14 := hid (own_below HOw0_13.out hb14)
    have HOg0_14 := hid (own_below HOg0_13.out hb14)
    have HOt3_14 := hid (own_below HOt3_13.out hb14)
    clear HB0_13 HB2_13 HB3_13 HB13_13 HOw0_13 HOg0_13 HOt3_13
    have HB14_14 : Hid (Below w14.heap.size w14 w14) := hid (Below.refl _ _)
    have HOh0_14 := hid ho14
    have HLh0 := hid (ho14.lt)
    clear hb14 ho14
    go_wp2_with (go_at_call 26; refine (eq_bytes L (by omega) _ _ _ (row_b_own HOh0_14.out) (row_b_own HOw0_14.out)).mono ?_; rintro e w15 ⟨rfl, hb15⟩; refine Hid.out ?_)
    refine hid ?_
    have hz15 := hb15.size
    have HB0_15 := hid (HB0_14.out.trans (hb15.mono HB0_14.out.size))
    have HB2_15 := hid (HB2_14.out.trans (hb15.mono HB2_14.out.size))
    have HB3_15 := hid (HB3_14.out.trans (hb15.mono HB3_14.out.size))
    have HB13_15 := hid (HB13_14.out.trans (hb15.mono HB13_14.out.size))
    have HB14_15 := hid (HB14_14.out.trans (hb15.mono HB14_14.out.size))
    have HOw0_15 := hid (own_below HOw0_14.out hb15)
    have HOg0_15 := hid (own_below HOg0_14.out hb15)
    have HOh0_15 := hid (own_below HOh0_14.out hb15)
    clear HB0_14 HB2_14 HB3_14 HB13_14 HB14_14 HOw0_14 HOg0_14 HOh0_14
    clear hb15
    go_wp2_with (go_at_call 30; refine (held_bytes 1 L.length (by omega) _ _ (bmarks_row HOg0_15.out)).mono ?_; rintro e w16 ⟨rfl, hb16⟩; refine Hid.out ?_)
    refine hid ?_
    have hz16 := hb16.size
    have HB0_16 := hid (HB0_15.out.trans (hb16.mono HB0_15.out.size))
    have HB2_16 := hid (HB2_15.out.trans (hb16.mono HB2_15.out.size))
    have HB3_16 := hid (HB3_15.out.trans (hb16.mono HB3_15.out.size))
    have HB13_16 := hid (HB13_15.out.trans (hb16.mono HB13_15.out.size))
    have HB14_16 := hid (HB14_15.out.trans (hb16.mono HB14_15.out.size))
    have HOw0_16 := hid (own_below HOw0_15.out hb16)
    have HOg0_16 := hid (own_below HOg0_15.out hb16)
    have HOh0_16 := hid (own_below HOh0_15.out hb16)
    clear HB0_15 HB2_15 HB3_15 HB13_15 HB14_15 HOw0_15 HOg0_15 HOh0_15
    clear hb16
    go_wp2
    go_ret
    exact ⟨rfl, HB0_16.out⟩
end Go.Proofs.YtedbhlihdfaaaaaDoor
