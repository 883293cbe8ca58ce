/- The law on Replay, walked: it answers true. -/
import Derived.Test.YtgmgffbfpbkfmaaGreatDoorPackRp
import Derived.Test.YtgmgffbfpbkfmaaGreatDoorArgTexts
import Derived.Test.YtgmgffbfpbkfmaaGreatDoorPackLaw
namespace Go.Proofs.YtgmgffbfpbkfmaaGreatDoor
open Go.RowKit
open Go.Lib (hid)

/-- The size that is asked of texts, of which some has been used already. -/
theorem sz_texts (ps : List (List UInt8)) (hs : ∀ p ∈ ps, p.length ≤ 9223372036854775807) (hn : ps.length ≤ 9223372036854775807) (k : Nat) (hk : k ≤ 1048576) (a : Value) (w : World) (ha : ArgAt w a ps) :
    Calls Tryz.prog 38 #[a, .int .i64 k] w fun e w' => (∃ r : Int, e = .returned (.int .i64 r) ∧ (r < 0 ∨ 0 ≤ r ∧ ps.length + total ps ≤ k)) ∧ Below w.heap.size w w' := by
  obtain ⟨p, c, rfl, hp⟩ := ha
  have HP := hid hp
  have HS := hid hs
  clear hp hs
  by_cases hl : ps.length ≤ k
  · go_enter Tryz.func38, Tryz.ntmps38
    go_wp2
    go_loopw [1, 5] (fun lv iv wr => ∃ i : Nat, ∃ r : Int, i ≤ ps.length ∧ iv = .int .i64 i ∧ lv = .int .i64 r ∧ 0 ≤ r ∧ r ≤ 1048576 ∧ Below w.heap.size w wr ∧ Hid (r = (k : Int) - (ps.length : Int) - (total (ps.take i) : Int))) (fun _ iv _ => ps.length - (RowKit.intOf iv).toNat)
    case atStart => exact ⟨0, _, Nat.zero_le _, rfl, rfl, by omega, by omega, Below.refl _ _, hid (by simp [total])⟩
    case round =>
      obtain ⟨i, r, hi, rfl, rfl, hr0, hr1, hbel, HR⟩ := hrel
      have HB := hid hbel
      by_cases hlt : i < ps.length
      · obtain ⟨ad, rfl, hbl, hc⟩ := HP.out i hlt
        have hc1 : wr.cell? (ad.add i) = some (.string ⟨ps[i].toArray⟩) := by rw [hbel.cell (p := ad.add i) (by rw [add_block]; exact hbl)]; exact hc
        have hx1 := HS.out ps[i] (List.getElem_mem hlt)
        have hx2 : (⟨ps[i].toArray⟩ : ByteArray).size = ps[i].length := by show ps[i].toArray.size = _; simp
        have HTK := hid (total_take ps i hlt)
        rw [← hx2] at hx1
        have HX := hid hx2
        clear hx2 hc
        generalize (⟨ps[i].toArray⟩ : ByteArray) = x at *
        clear hbel
        by_cases hneg : r - (x.size : Int) < 0
        · go_wp2
          go_ret
          exact ⟨⟨-1, rfl, Or.inl (by omega)⟩, HB.out⟩
        · go_wp2
          go_roundw
          case rel => exact ⟨i + 1, _, by omega, by go_num, rfl, by omega, by omega, HB.out, hid (by have := HR.out; rw [HTK.out, ← HX.out]; omega)⟩
          case measure => simp [RowKit.intOf]; omega
      · have hie : i = ps.length := by omega
        subst hie
        clear hbel
        go_wp2
        go_ret
        refine ⟨⟨r, rfl, Or.inr ⟨hr0, ?_⟩⟩, HB.out⟩
        have := HR.out
        rw [List.take_of_length_le (Nat.le_refl _)] at this
        omega
  · go_enter Tryz.func38, Tryz.ntmps38
    go_wp2
    go_ret
    exact ⟨⟨-1, rfl, Or.inl (by omega)⟩, Below.refl _ _⟩

theorem marks_images2 {w : World} {base k n : Nat} {a : Value} (h : w.ownsRow base 66 2 a n (flat encImage (marksImage k n))) : FRow encImage 2 w a (marksImage k n) :=
  row_of_own encImage_len (by rw [marksImage_len]; exact h)

set_option maxRecDepth 20000 in
set_option maxHeartbeats 4000000 in
theorem law_replay (es : List EventD) (ht : ∀ e ∈ es, tameEvent e) (hm : es.length ≤ maxLen) (ls : List (List UInt8)) (hs : ∀ p ∈ ls, p.length ≤ 9223372036854775807) (hn : ls.length ≤ 9223372036854775807) (mask : Int) (a b : Value) (w : World) (ha : FArg encEvent 2 w a es) (hb : ArgAt w b ls) (hT : Tab w) (hG : 0 < w.heap.size) (hL : Num.Laid w) :
    Calls Tryz.prog 9 #[a, b, .int .i64 mask] w fun e w' => e = .returned (.bool true) ∧ Below w.heap.size w w' := by
  have HFa := hid ha
  have HFb := hid hb
  have HTAB := hid hT
  have HLD := hid hL
  have CZ := hid (fun a W (ha : FArg encEvent 2 W a es) => sz_Events es ht hm 1048576 (Nat.le_refl _) a W ha)
  have CY := hid (fun k hk a W (ha : ArgAt W a ls) => sz_texts ls hs hn k hk a W ha)
  obtain ⟨p0, c0, rfl, _⟩ := ha
  obtain ⟨q0, d0, rfl, _⟩ := hb
  clear ht hT hL hs
  have HB0_0 : Hid (Below w.heap.size w w) := hid (Below.refl _ _)
  have hz0 : w.heap.size ≤ w.heap.size := Nat.le_refl _
  go_enter Tryz.func9, Tryz.ntmps9
  go_wp2_with (go_at_call 30; refine (CZ.out _ _ (HFa.out.on HB0_0.out)).mono ?_; rintro e w1 ⟨⟨r, rfl, hr⟩, hb1⟩; refine Hid.out ?_)
  refine hid ?_
  have hz1 := hb1.size
  have HB0_1 := hid (HB0_0.out.trans (hb1.mono HB0_0.out.size))
  clear hb1
  rcases hr with hr | ⟨hr, htot⟩
  · go_wp2
    go_ret
    exact ⟨rfl, HB0_1.out⟩
  · skip
    obtain ⟨k, rfl⟩ := Int.eq_ofNat_of_zero_le hr
    have hk : k ≤ 1048576 := by omega
    have hr2 : ¬ (k : Int) < 0 := by omega
    have hn1 : es.length ≤ 1048576 := by omega
    have hs1 : ∀ e ∈ es, e.x1.size ≤ 1048576 := fun e he => by have h := used_mem (sz := szEventN) he; unfold szEventN at h htot; omega
    clear htot hr
    go_wp2_with (go_at_call 38; refine (CY.out k hk _ _ (HFb.out.on HB0_1.out)).mono ?_; rintro e w2 ⟨⟨q, rfl, hq⟩, hb2⟩; refine Hid.out ?_)
    refine hid ?_
    have hz2 := hb2.size
    have HB0_2 := hid (HB0_1.out.trans (hb2.mono HB0_1.out.size))
    clear HB0_1
    clear hb2
    rcases hq with hq | ⟨hq, htot⟩
    · go_wp2
      go_ret
      exact ⟨rfl, HB0_2.out⟩
    · skip
      have hq2 : ¬ q < 0 := by omega
      have hn2 : ls.length ≤ 1048576 := by omega
      have hfew := rpOut_few es ls mask
      have CS := hid (fun a b W ha hb => rp_spec es hs1 hn1 ls mask a b W ha hb)
      have CI := hid (fun a b W ha hb hT hG hL => rp_impl es hn1 ls hn2 mask a b W ha hb hT hG hL)
      unfold RpPost at CS CI
      generalize (rpOut es ls mask).2.1 = b at *
      generalize (rpOut es ls mask).2.2 = d at *
      generalize (rpOut es ls mask).1 = L at *
      have hbb : (b != b) = false := by simp
      have hdd : (d != d) = false := by simp
      have hmm : ¬ ((1 + 2 * es.length + ls.length : Nat) : Int) < 0 := by omega
      have hmn : ¬ ((1 + 2 * L.length : Nat) : Int) < 0 := by omega
      clear htot hq hs1
      go_wp2_with (go_at_call 32; refine (to_Events es hn1 _ _ (HFa.out.on HB0_2.out)).mono ?_; rintro e w3 ⟨rfl, hb3, ho3⟩; refine Hid.out ?_)
      refine hid ?_
      have hz3 := hb3.size
      have HB0_3 := hid (HB0_2.out.trans (hb3.mono HB0_2.out.size))
      clear HB0_2
      have HB3_3 : Hid (Below w3.heap.size w3 w3) := hid (Below.refl _ _)
      have HOt1_3 := hid ho3
      have HLt1 := hid (ho3.lt)
      clear hb3 ho3
      go_wp2_with (go_at_call 40; refine (to_calls ls hn2 _ _ (HFb.out.on HB0_3.out)).mono ?_; rintro e w4 ⟨sv4, rfl, hb4, ho4⟩; refine Hid.out ?_)
      refine hid ?_
      have hz4 := hb4.size
      have HB0_4 := hid (HB0_3.out.trans (hb4.mono HB0_3.out.size))
      have HB3_4 := hid (HB3_3.out.trans (hb4.mono HB3_3.out.size))
      have HOt1_4 := hid (own_below HOt1_3.out hb4)
      clear HB0_3 HB3_3 HOt1_3
      have HB4_4 : Hid (Below w4.heap.size w4 w4) := hid (Below.refl _ _)
      have HOt2_4 := hid ho4
      have HLt2 := hid (ho4.lt)
      clear hb4 ho4
      go_wp2_with (go_at_call 39; refine (CS.out _ _ _ (row_of_own encEvent_len HOt1_4.out) (texts_of HOt2_4.out)).mono ?_; rintro e w5 ⟨sv5, rfl, hb5, ho5⟩; refine Hid.out ?_)
      refine hid ?_
      have hz5 := hb5.size
      have HB0_5 := hid (HB0_4.out.trans (hb5.mono HB0_4.out.size))
      have HB3_5 := hid (HB3_4.out.trans (hb5.mono HB3_4.out.size))
      have HB4_5 := hid (HB4_4.out.trans (hb5.mono HB4_4.out.size))
      have HOt1_5 := hid (own_below HOt1_4.out hb5)
      have HOt2_5 := hid (own_below HOt2_4.out hb5)
      clear HB0_4 HB3_4 HB4_4 HOt1_4 HOt2_4
      have HB5_5 : Hid (Below w5.heap.size w5 w5) := hid (Below.refl _ _)
      have HOw0_5 := hid ho5
      have HLw0 := hid (ho5.lt)
      clear hb5 ho5
      go_wp2_with (go_at_call 32; refine (to_Events es hn1 _ _ (HFa.out.on HB0_5.out)).mono ?_; rintro e w6 ⟨rfl, hb6, ho6⟩; refine Hid.out ?_)
      refine hid ?_
      have hz6 := hb6.size
      have HB0_6 := hid (HB0_5.out.trans (hb6.mono HB0_5.out.size))
      have HB3_6 := hid (HB3_5.out.trans (hb6.mono HB3_5.out.size))
      have HB4_6 := hid (HB4_5.out.trans (hb6.mono HB4_5.out.size))
      have HB5_6 := hid (HB5_5.out.trans (hb6.mono HB5_5.out.size))
      have HOw0_6 := hid (own_below HOw0_5.out hb6)
      clear HB0_5 HB3_5 HB4_5 HB5_5 HOw0_5
      have HB6_6 : Hid (Below w6.heap.size w6 w6) := hid (Below.refl _ _)
      have HOx0_6 := hid ho6
      have HLx0 := hid (ho6.lt)
      clear hb6 ho6
      go_wp2_with (go_at_call 40; refine (to_calls ls hn2 _ _ (HFb.out.on HB0_6.out)).mono ?_; rintro e w7 ⟨sv7, rfl, hb7, ho7⟩; refine Hid.out ?_)
      refine hid ?_
      have hz7 := hb7.size
      have HB0_7 := hid (HB0_6.out.trans (hb7.mono HB0_6.out.size))
      have HB3_7 := hid (HB3_6.out.trans (hb7.mono HB3_6.out.size))
      have HB4_7 := hid (HB4_6.out.trans (hb7.mono HB4_6.out.size))
      have HB5_7 := hid (HB5_6.out.trans (hb7.mono HB5_6.out.size))
      have HB6_7 := hid (HB6_6.out.trans (hb7.mono HB6_6.out.size))
      have HOw0_7 := hid (own_below HOw0_6.out hb7)
      have HOx0_7 := hid (own_below HOx0_6.out hb7)
      clear HB0_6 HB3_6 HB4_6 HB5_6 HB6_6 HOw0_6 HOx0_6
      have HB7_7 : Hid (Below w7.heap.size w7 w7) := hid (Below.refl _ _)
      have HOx1_7 := hid ho7
      have HLx1 := hid (ho7.lt)
      clear hb7 ho7
      go_wp2_with (go_at_call 41; refine (CI.out _ _ _ (row_of_own encEvent_len HOx0_7.out) (texts_of HOx1_7.out) (tab_on HTAB.out hG HB0_7.out) (Nat.lt_of_lt_of_le hG HB0_7.out.size) (HLD.out.on HB0_7.out)).mono ?_; rintro e w8 ⟨sv8, rfl, hb8, ho8⟩; refine Hid.out ?_)
      refine hid ?_
      have hz8 := hb8.size
      have HB0_8 := hid (HB0_7.out.trans (hb8.mono HB0_7.out.size))
      have HB3_8 := hid (HB3_7.out.trans (hb8.mono HB3_7.out.size))
      have HB4_8 := hid (HB4_7.out.trans (hb8.mono HB4_7.out.size))
      have HB5_8 := hid (HB5_7.out.trans (hb8.mono HB5_7.out.size))
      have HB6_8 := hid (HB6_7.out.trans (hb8.mono HB6_7.out.size))
      have HB7_8 := hid (HB7_7.out.trans (hb8.mono HB7_7.out.size))
      have HOw0_8 := hid (own_below HOw0_7.out hb8)
      have HOx0_8 := hid (own_below HOx0_7.out hb8)
      have HOx1_8 := hid (own_below HOx1_7.out hb8)
      clear HB0_7 HB3_7 HB4_7 HB5_7 HB6_7 HB7_7 HOw0_7 HOx0_7 HOx1_7
      have HB8_8 : Hid (Below w8.heap.size w8 w8) := hid (Below.refl _ _)
      have HOg0_8 := hid ho8
      have HLg0 := hid (ho8.lt)
      clear hb8 ho8
      go_wp2_with (go_at_call 19; refine (eq_Images L (by omega) _ _ _ (row_of_own encImage_len HOg0_8.out) (row_of_own encImage_len HOw0_8.out)).mono ?_; rintro e w9 ⟨rfl, hb9⟩; refine Hid.out ?_)
      refine hid ?_
      have hz9 := hb9.size
      have HB0_9 := hid (HB0_8.out.trans (hb9.mono HB0_8.out.size))
      have HB3_9 := hid (HB3_8.out.trans (hb9.mono HB3_8.out.size))
      have HB4_9 := hid (HB4_8.out.trans (hb9.mono HB4_8.out.size))
      have HB5_9 := hid (HB5_8.out.trans (hb9.mono HB5_8.out.size))
      have HB6_9 := hid (HB6_8.out.trans (hb9.mono HB6_8.out.size))
      have HB7_9 := hid (HB7_8.out.trans (hb9.mono HB7_8.out.size))
      have HB8_9 := hid (HB8_8.out.trans (hb9.mono HB8_8.out.size))
      have HOw0_9 := hid (own_below HOw0_8.out hb9)
      have HOx0_9 := hid (own_below HOx0_8.out hb9)
      have HOx1_9 := hid (own_below HOx1_8.out hb9)
      have HOg0_9 := hid (own_below HOg0_8.out hb9)
      clear HB0_8 HB3_8 HB4_8 HB5_8 HB6_8 HB7_8 HB8_8 HOw0_8 HOx0_8 HOx1_8 HOg0_8
      clear hb9
      go_wp2_with (go_at_call 32; refine (to_Events es hn1 _ _ (HFa.out.on HB0_9.out)).mono ?_; rintro e w10 ⟨rfl, hb10, ho10⟩; refine Hid.out ?_)
      refine hid ?_
      have hz10 := hb10.size
      have HB0_10 := hid (HB0_9.out.trans (hb10.mono HB0_9.out.size))
      have HB3_10 := hid (HB3_9.out.trans (hb10.mono HB3_9.out.size))
      have HB4_10 := hid (HB4_9.out.trans (hb10.mono HB4_9.out.size))
      have HB5_10 := hid (HB5_9.out.trans (hb10.mono HB5_9.out.size))
      have HB6_10 := hid (HB6_9.out.trans (hb10.mono HB6_9.out.size))
      have HB7_10 := hid (HB7_9.out.trans (hb10.mono HB7_9.out.size))
      have HB8_10 := hid (HB8_9.out.trans (hb10.mono HB8_9.out.size))
      have HOw0_10 := hid (own_below HOw0_9.out hb10)
      have HOx0_10 := hid (own_below HOx0_9.out hb10)
      have HOx1_10 := hid (own_below HOx1_9.out hb10)
      have HOg0_10 := hid (own_below HOg0_9.out hb10)
      clear HB0_9 HB3_9 HB4_9 HB5_9 HB6_9 HB7_9 HB8_9 HOw0_9 HOx0_9 HOx1_9 HOg0_9
      have HB10_10 : Hid (Below w10.heap.size w10 w10) := hid (Below.refl _ _)
      have HOt3_10 := hid ho10
      have HLt3 := hid (ho10.lt)
      clear hb10 ho10
      go_wp2_with (go_at_call 34; refine (eq_Events es (by omega) _ _ _ (row_of_own encEvent_len HOx0_10.out) (row_of_own encEvent_len HOt3_10.out)).mono ?_; rintro e w11 ⟨rfl, hb11⟩; refine Hid.out ?_)
      refine hid ?_
      have hz11 := hb11.size
      have HB0_11 := hid (HB0_10.out.trans (hb11.mono HB0_10.out.size))
      have HB3_11 := hid (HB3_10.out.trans (hb11.mono HB3_10.out.size))
      have HB4_11 := hid (HB4_10.out.trans (hb11.mono HB4_10.out.size))
      have HB5_11 := hid (HB5_10.out.trans (hb11.mono HB5_10.out.size))
      have HB6_11 := hid (HB6_10.out.trans (hb11.mono HB6_10.out.size))
      have HB7_11 := hid (HB7_10.out.trans (hb11.mono HB7_10.out.size))
      have HB8_11 := hid (HB8_10.out.trans (hb11.mono HB8_10.out.size))
      have HB10_11 := hid (HB10_10.out.trans (hb11.mono HB10_10.out.size))
      have HOw0_11 := hid (own_below HOw0_10.out hb11)
      have HOx0_11 := hid (own_below HOx0_10.out hb11)
      have HOx1_11 := hid (own_below HOx1_10.out hb11)
      have HOg0_11 := hid (own_below HOg0_10.out hb11)
      have HOt3_11 := hid (own_below HOt3_10.out hb11)
      clear HB0_10 HB3_10 HB4_10 HB5_10 HB6_10 HB7_10 HB8_10 HB10_10 HOw0_10 HOx0_10 HOx1_10 HOg0_10 HOt3_10
      clear hb11
      go_wp2_with (go_at_call 40; refine (to_calls ls hn2 _ _ (HFb.out.on HB0_11.out)).mono ?_; rintro e w12 ⟨sv12, rfl, hb12, ho12⟩; refine Hid.out ?_)
      refine hid ?_
      have hz12 := hb12.size
      have HB0_12 := hid (HB0_11.out.trans (hb12.mono HB0_11.out.size))
      have HB3_12 := hid (HB3_11.out.trans (hb12.mono HB3_11.out.size))
      have HB4_12 := hid (HB4_11.out.trans (hb12.mono HB4_11.out.size))
      have HB5_12 := hid (HB5_11.out.trans (hb12.mono HB5_11.out.size))
      have HB6_12 := hid (HB6_11.out.trans (hb12.mono HB6_11.out.size))
      have HB7_12 := hid (HB7_11.out.trans (hb12.mono HB7_11.out.size))
      have HB8_12 := hid (HB8_11.out.trans (hb12.mono HB8_11.out.size))
      have HB10_12 := hid (HB10_11.out.trans (hb12.mono HB10_11.out.size))
      have HOw0_12 := hid (own_below HOw0_11.out hb12)
      have HOx0_12 := hid (own_below HOx0_11.out hb12)
      have HOx1_12 := hid (own_below HOx1_11.out hb12)
      have HOg0_12 := hid (own_below HOg0_11.out hb12)
      clear HB0_11 HB3_11 HB4_11 HB5_11 HB6_11 HB7_11 HB8_11 HB10_11 HOw0_11 HOx0_11 HOx1_11 HOg0_11
      have HB12_12 : Hid (Below w12.heap.size w12 w12) := hid (Below.refl _ _)
      have HOt4_12 := hid ho12
      have HLt4 := hid (ho12.lt)
      clear hb12 ho12
      go_wp2_with (go_at_call 42; refine (eq_same ls (by omega) _ _ _ (texts_of HOx1_12.out) (texts_of HOt4_12.out)).mono ?_; rintro e w13 ⟨rfl, hb13⟩; refine Hid.out ?_)
      refine hid ?_
      have hz13 := hb13.size
      have HB0_13 := hid (HB0_12.out.trans (hb13.mono HB0_12.out.size))
      have HB3_13 := hid (HB3_12.out.trans (hb13.mono HB3_12.out.size))
      have HB4_13 := hid (HB4_12.out.trans (hb13.mono HB4_12.out.size))
      have HB5_13 := hid (HB5_12.out.trans (hb13.mono HB5_12.out.size))
      have HB6_13 := hid (HB6_12.out.trans (hb13.mono HB6_12.out.size))
      have HB7_13 := hid (HB7_12.out.trans (hb13.mono HB7_12.out.size))
      have HB8_13 := hid (HB8_12.out.trans (hb13.mono HB8_12.out.size))
      have HB10_13 := hid (HB10_12.out.trans (hb13.mono HB10_12.out.size))
      have HB12_13 := hid (HB12_12.out.trans (hb13.mono HB12_12.out.size))
      have HOw0_13 := hid (own_below HOw0_12.out hb13)
      have HOx0_13 := hid (own_below HOx0_12.out hb13)
      have HOx1_13 := hid (own_below HOx1_12.out hb13)
      have HOg0_13 := hid (own_below HOg0_12.out hb13)
      have HOt4_13 := hid (own_below HOt4_12.out hb13)
      clear HB0_12 HB3_12 HB4_12 HB5_12 HB6_12 HB7_12 HB8_12 HB10_12 HB12_12 HOw0_12 HOx0_12 HOx1_12 HOg0_12 HOt4_12
      clear hb13
      go_wp2_with (go_at_call 35; refine (mark_Events es 1 (by omega) (by omega) _ _ _ HOx0_13.out).mono ?_; rintro e w14 ⟨rfl, hg14, ho14⟩; refine Hid.out ?_)
      refine hid ?_
      have hz14 := hg14.size
      have HB0_14 := hid (HB0_13.out.trans (grown_to hg14 HB0_13.out.size (fun k hk => by have := (HLx0.out k hk).1; omega)))
      have HB3_14 := hid (HB3_13.out.trans (grown_to hg14 HB3_13.out.size (fun k hk => by have := (HLx0.out k hk).1; omega)))
      have HB4_14 := hid (HB4_13.out.trans (grown_to hg14 HB4_13.out.size (fun k hk => by have := (HLx0.out k hk).1; omega)))
      have HB5_14 := hid (HB5_13.out.trans (grown_to hg14 HB5_13.out.size (fun k hk => by have := (HLx0.out k hk).1; omega)))
      have HOw0_14 := hid (HOw0_13.out.kept hg14 (kept_apart HLw0.out HLx0.out (by omega)))
      have HOx1_14 := hid (HOx1_13.out.kept hg14 (kept_apart HLx1.out HLx0.out (by omega)))
      have HOg0_14 := hid (HOg0_13.out.kept hg14 (kept_apart HLg0.out HLx0.out (by omega)))
      have HOx0_14 := hid ho14
      clear HB0_13 HB3_13 HB4_13 HB5_13 HB6_13 HB7_13 HB8_13 HB10_13 HB12_13 HOw0_13 HOx0_13 HOx1_13 HOg0_13
      clear hg14 ho14
      go_wp2_with (go_at_call 43; refine (mark_calls ls (1 + 2 * es.length) (by omega) (by omega) _ _ _ HOx1_14.out).mono ?_; rintro e w15 ⟨rfl, hg15, ho15⟩; refine Hid.out ?_)
      refine hid ?_
      have hz15 := hg15.size
      have HB0_15 := hid (HB0_14.out.trans (grown_to hg15 HB0_14.out.size (fun k hk => by have := (HLx1.out k hk).1; omega)))
      have HB3_15 := hid (HB3_14.out.trans (grown_to hg15 HB3_14.out.size (fun k hk => by have := (HLx1.out k hk).1; omega)))
      have HB4_15 := hid (HB4_14.out.trans (grown_to hg15 HB4_14.out.size (fun k hk => by have := (HLx1.out k hk).1; omega)))
      have HB5_15 := hid (HB5_14.out.trans (grown_to hg15 HB5_14.out.size (fun k hk => by have := (HLx1.out k hk).1; omega)))
      have HOw0_15 := hid (HOw0_14.out.kept hg15 (kept_apart HLw0.out HLx1.out (by omega)))
      have HOg0_15 := hid (HOg0_14.out.kept hg15 (kept_apart HLg0.out HLx1.out (by omega)))
      have HOx1_15 := hid ho15
      clear HB0_14 HB3_14 HB4_14 HB5_14 HOw0_14 HOx1_14 HOg0_14
      clear hg15 ho15
      go_wp2_with (go_at_call 19; refine (eq_Images L (by omega) _ _ _ (row_of_own encImage_len HOg0_15.out) (row_of_own encImage_len HOw0_15.out)).mono ?_; rintro e w16 ⟨rfl, hb16⟩; refine Hid.out ?_)
      refine hid ?_
      have hz16 := hb16.size
      have HB0_16 := hid (HB0_15.out.trans (hb16.mono HB0_15.out.size))
      have HB3_16 := hid (HB3_15.out.trans (hb16.mono HB3_15.out.size))
      have HB4_16 := hid (HB4_15.out.trans (hb16.mono HB4_15.out.size))
      have HB5_16 := hid (HB5_15.out.trans (hb16.mono HB5_15.out.size))
      have HOw0_16 := hid (own_below HOw0_15.out hb16)
      have HOg0_16 := hid (own_below HOg0_15.out hb16)
      clear HB0_15 HB3_15 HB4_15 HB5_15 HOw0_15 HOg0_15
      clear hb16
      go_wp2_with (go_at_call 36; refine (mark_Images L 1 (by omega) (by omega) _ _ _ HOg0_16.out).mono ?_; rintro e w17 ⟨rfl, hg17, ho17⟩; refine Hid.out ?_)
      refine hid ?_
      have hz17 := hg17.size
      have HB0_17 := hid (HB0_16.out.trans (grown_to hg17 HB0_16.out.size (fun k hk => by have := (HLg0.out k hk).1; omega)))
      have HB3_17 := hid (HB3_16.out.trans (grown_to hg17 HB3_16.out.size (fun k hk => by have := (HLg0.out k hk).1; omega)))
      have HB4_17 := hid (HB4_16.out.trans (grown_to hg17 HB4_16.out.size (fun k hk => by have := (HLg0.out k hk).1; omega)))
      have HB5_17 := hid (HB5_16.out.trans (grown_to hg17 HB5_16.out.size (fun k hk => by have := (HLg0.out k hk).1; omega)))
      have HOw0_17 := hid (HOw0_16.out.kept hg17 (kept_apart HLw0.out HLg0.out (by omega)))
      have HOg0_17 := hid ho17
      clear HB0_16 HB3_16 HB4_16 HB5_16 HOw0_16 HOg0_16
      clear hg17 ho17
      go_wp2_with (go_at_call 37; refine (held_Images 1 L.length (by omega) (by omega) _ _ (marks_images2 HOg0_17.out)).mono ?_; rintro e w18 ⟨rfl, hb18⟩; refine Hid.out ?_)
      refine hid ?_
      have hz18 := hb18.size
      have HB0_18 := hid (HB0_17.out.trans (hb18.mono HB0_17.out.size))
      have HB3_18 := hid (HB3_17.out.trans (hb18.mono HB3_17.out.size))
      have HB4_18 := hid (HB4_17.out.trans (hb18.mono HB4_17.out.size))
      have HB5_18 := hid (HB5_17.out.trans (hb18.mono HB5_17.out.size))
      have HOw0_18 := hid (own_below HOw0_17.out hb18)
      have HOg0_18 := hid (own_below HOg0_17.out hb18)
      clear HB0_17 HB3_17 HB4_17 HB5_17 HOw0_17 HOg0_17
      clear hb18
      go_wp2_with (go_at_call 32; refine (to_Events es hn1 _ _ (HFa.out.on HB0_18.out)).mono ?_; rintro e w19 ⟨rfl, hb19, ho19⟩; refine Hid.out ?_)
      refine hid ?_
      have hz19 := hb19.size
      have HB0_19 := hid (HB0_18.out.trans (hb19.mono HB0_18.out.size))
      have HB3_19 := hid (HB3_18.out.trans (hb19.mono HB3_18.out.size))
      have HB4_19 := hid (HB4_18.out.trans (hb19.mono HB4_18.out.size))
      have HB5_19 := hid (HB5_18.out.trans (hb19.mono HB5_18.out.size))
      have HOw0_19 := hid (own_below HOw0_18.out hb19)
      have HOg0_19 := hid (own_below HOg0_18.out hb19)
      clear HB0_18 HB3_18 HB4_18 HB5_18 HOw0_18 HOg0_18
      have HB19_19 : Hid (Below w19.heap.size w19 w19) := hid (Below.refl _ _)
      have HOt5_19 := hid ho19
      have HLt5 := hid (ho19.lt)
      clear hb19 ho19
      go_wp2_with (go_at_call 40; refine (to_calls ls hn2 _ _ (HFb.out.on HB0_19.out)).mono ?_; rintro e w20 ⟨sv20, rfl, hb20, ho20⟩; refine Hid.out ?_)
      refine hid ?_
      have hz20 := hb20.size
      have HB0_20 := hid (HB0_19.out.trans (hb20.mono HB0_19.out.size))
      have HB3_20 := hid (HB3_19.out.trans (hb20.mono HB3_19.out.size))
      have HB4_20 := hid (HB4_19.out.trans (hb20.mono HB4_19.out.size))
      have HB5_20 := hid (HB5_19.out.trans (hb20.mono HB5_19.out.size))
      have HB19_20 := hid (HB19_19.out.trans (hb20.mono HB19_19.out.size))
      have HOw0_20 := hid (own_below HOw0_19.out hb20)
      have HOg0_20 := hid (own_below HOg0_19.out hb20)
      have HOt5_20 := hid (own_below HOt5_19.out hb20)
      clear HB0_19 HB3_19 HB4_19 HB5_19 HB19_19 HOw0_19 HOg0_19 HOt5_19
      have HB20_20 : Hid (Below w20.heap.size w20 w20) := hid (Below.refl _ _)
      have HOt6_20 := hid ho20
      have HLt6 := hid (ho20.lt)
      clear hb20 ho20
      go_wp2_with (go_at_call 41; refine (CI.out _ _ _ (row_of_own encEvent_len HOt5_20.out) (texts_of HOt6_20.out) (tab_on HTAB.out hG HB0_20.out) (Nat.lt_of_lt_of_le hG HB0_20.out.size) (HLD.out.on HB0_20.out)).mono ?_; rintro e w21 ⟨sv21, rfl, hb21, ho21⟩; refine Hid.out ?_)
      refine hid ?_
      have hz21 := hb21.size
      have HB0_21 := hid (HB0_20.out.trans (hb21.mono HB0_20.out.size))
      have HB3_21 := hid (HB3_20.out.trans (hb21.mono HB3_20.out.size))
      have HB4_21 := hid (HB4_20.out.trans (hb21.mono HB4_20.out.size))
      have HB5_21 := hid (HB5_20.out.trans (hb21.mono HB5_20.out.size))
      have HB19_21 := hid (HB19_20.out.trans (hb21.mono HB19_20.out.size))
      have HB20_21 := hid (HB20_20.out.trans (hb21.mono HB20_20.out.size))
      have HOw0_21 := hid (own_below HOw0_20.out hb21)
      have HOg0_21 := hid (own_below HOg0_20.out hb21)
      have HOt5_21 := hid (own_below HOt5_20.out hb21)
      have HOt6_21 := hid (own_below HOt6_20.out hb21)
      clear HB0_20 HB3_20 HB4_20 HB5_20 HB19_20 HB20_20 HOw0_20 HOg0_20 HOt5_20 HOt6_20
      have HB21_21 : Hid (Below w21.heap.size w21 w21) := hid (Below.refl _ _)
      have HOh0_21 := hid ho21
      have HLh0 := hid (ho21.lt)
      clear hb21 ho21
      go_wp2_with (go_at_call 19; refine (eq_Images L (by omega) _ _ _ (row_of_own encImage_len HOh0_21.out) (row_of_own encImage_len HOw0_21.out)).mono ?_; rintro e w22 ⟨rfl, hb22⟩; refine Hid.out ?_)
      refine hid ?_
      have hz22 := hb22.size
      have HB0_22 := hid (HB0_21.out.trans (hb22.mono HB0_21.out.size))
      have HB3_22 := hid (HB3_21.out.trans (hb22.mono HB3_21.out.size))
      have HB4_22 := hid (HB4_21.out.trans (hb22.mono HB4_21.out.size))
      have HB5_22 := hid (HB5_21.out.trans (hb22.mono HB5_21.out.size))
      have HB19_22 := hid (HB19_21.out.trans (hb22.mono HB19_21.out.size))
      have HB20_22 := hid (HB20_21.out.trans (hb22.mono HB20_21.out.size))
      have HB21_22 := hid (HB21_21.out.trans (hb22.mono HB21_21.out.size))
      have HOw0_22 := hid (own_below HOw0_21.out hb22)
      have HOg0_22 := hid (own_below HOg0_21.out hb22)
      have HOh0_22 := hid (own_below HOh0_21.out hb22)
      clear HB0_21 HB3_21 HB4_21 HB5_21 HB19_21 HB20_21 HB21_21 HOw0_21 HOg0_21 HOh0_21
      clear hb22
      go_wp2_with (go_at_call 37; refine (held_Images 1 L.length (by omega) (by omega) _ _ (marks_images2 HOg0_22.out)).mono ?_; rintro e w23 ⟨rfl, hb23⟩; refine Hid.out ?_)
      refine hid ?_
      have hz23 := hb23.size
      have HB0_23 := hid (HB0_22.out.trans (hb23.mono HB0_22.out.size))
      have HB3_23 := hid (HB3_22.out.trans (hb23.mono HB3_22.out.size))
      have HB4_23 := hid (HB4_22.out.trans (hb23.mono HB4_22.out.size))
      have HB5_23 := hid (HB5_22.out.trans (hb23.mono HB5_22.out.size))
      have HB19_23 := hid (HB19_22.out.trans (hb23.mono HB19_22.out.size))
      have HB20_23 := hid (HB20_22.out.trans (hb23.mono HB20_22.out.size))
      have HB21_23 := hid (HB21_22.out.trans (hb23.mono HB21_22.out.size))
      have HOw0_23 := hid (own_below HOw0_22.out hb23)
      have HOg0_23 := hid (own_below HOg0_22.out hb23)
      have HOh0_23 := hid (own_below HOh0_22.out hb23)
      clear HB0_22 HB3_22 HB4_22 HB5_22 HB19_22 HB20_22 HB21_22 HOw0_22 HOg0_22 HOh0_22
      clear hb23
      go_wp2
      go_ret
      exact ⟨rfl, HB0_23.out⟩
end Go.Proofs.YtgmgffbfpbkfmaaGreatDoor
