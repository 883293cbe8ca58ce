/- The law on Marked, walked: it answers true. -/
import Derived.Test.YtcpbofgfnbiieaaMarkBoth
import Derived.Test.YtcpbofgfnbiieaaLawKit
namespace Go.Proofs.Ytcpbofgfnbiieaa
open Go.RowKit
open Go.Lib (hid)

theorem imarks_row {w : World} {base k n : Nat} {a : Value} (h : w.ownsRow base 2 1 a n (ints (imarks k n))) : RowIn w a (imarks k n) := row_in_own2 (imarks_len k n).symm h

set_option maxRecDepth 20000 in
set_option maxHeartbeats 4000000 in
theorem law_marked (l : List Nat) (hm : l.length ≤ maxLen) (now most : Nat) (a : Value) (w : World) (ha : ArgFls w a l) :
    Calls Try.prog 14 #[a, .float .f64 now, .float .f64 most] w fun e w' => e = .returned (.bool true) ∧ Below w.heap.size w w' := by
  have HFa := hid ha
  obtain ⟨p0, c0, rfl, _⟩ := ha
  unfold maxLen at hm
  by_cases hL : l.length ≤ 1048576
  · skip
    have HB0_0 : Hid (Below w.heap.size w w) := hid (Below.refl _ _)
    have hz0 : w.heap.size ≤ w.heap.size := Nat.le_refl _
    have hfew := mrkOut_few l now most
    have CS := hid (fun a W ha => marked_spec l hL now most a W ha)
    have CI := hid (fun a W ha => marked_impl l hL now most a W ha)
    unfold MrkPost at CS CI
    generalize mrkOut l now most = L at *
    have hmm : ¬ ((1 + l.length : Nat) : Int) < 0 := by omega
    have hmn : ¬ ((1 + L.length : Nat) : Int) < 0 := by omega
    go_enter Try.func14, Try.ntmps14
    go_wp2_with (go_at_call 41; refine (to_fls l hL _ _ (HFa.out.on HB0_0.out)).mono ?_; rintro e w1 ⟨rfl, hb1, ho1⟩; refine Hid.out ?_)
    refine hid ?_
    have hz1 := hb1.size
    have HB0_1 := hid (HB0_0.out.trans (hb1.mono HB0_0.out.size))
    have HB1_1 : Hid (Below w1.heap.size w1 w1) := hid (Below.refl _ _)
    have HOt1_1 := hid ho1
    have HLt1 := hid (ho1.lt)
    clear hb1 ho1
    go_wp2_with (go_at_call 44; refine (CS.out _ _ (row_fl_own HOt1_1.out)).mono ?_; rintro e w2 ⟨sv2, rfl, hb2, ho2⟩; refine Hid.out ?_)
    refine hid ?_
    have hz2 := hb2.size
    have HB0_2 := hid (HB0_1.out.trans (hb2.mono HB0_1.out.size))
    have HB1_2 := hid (HB1_1.out.trans (hb2.mono HB1_1.out.size))
    have HOt1_2 := hid (own_below HOt1_1.out hb2)
    clear HB0_1 HB1_1 HOt1_1
    have HB2_2 : Hid (Below w2.heap.size w2 w2) := hid (Below.refl _ _)
    have HOw0_2 := hid ho2
    have HLw0 := hid (ho2.lt)
    clear hb2 ho2
    go_wp2_with (go_at_call 41; refine (to_fls l hL _ _ (HFa.out.on HB0_2.out)).mono ?_; rintro e w3 ⟨rfl, hb3, ho3⟩; refine Hid.out ?_)
    refine hid ?_
    have hz3 := hb3.size
    have HB0_3 := hid (HB0_2.out.trans (hb3.mono HB0_2.out.size))
    have HB1_3 := hid (HB1_2.out.trans (hb3.mono HB1_2.out.size))
    have HB2_3 := hid (HB2_2.out.trans (hb3.mono HB2_2.out.size))
    have HOw0_3 := hid (own_below HOw0_2.out hb3)
    clear HB0_2 HB1_2 HB2_2 HOw0_2
    have HB3_3 : Hid (Below w3.heap.size w3 w3) := hid (Below.refl _ _)
    have HOx0_3 := hid ho3
    have HLx0 := hid (ho3.lt)
    clear hb3 ho3
    go_wp2_with (go_at_call 45; refine (CI.out _ _ (row_fl_own HOx0_3.out)).mono ?_; rintro e w4 ⟨sv4, rfl, hb4, ho4⟩; refine Hid.out ?_)
    refine hid ?_
    have hz4 := hb4.size
    have HB0_4 := hid (HB0_3.out.trans (hb4.mono HB0_3.out.size))
    have HB1_4 := hid (HB1_3.out.trans (hb4.mono HB1_3.out.size))
    have HB2_4 := hid (HB2_3.out.trans (hb4.mono HB2_3.out.size))
    have HB3_4 := hid (HB3_3.out.trans (hb4.mono HB3_3.out.size))
    have HOw0_4 := hid (own_below HOw0_3.out hb4)
    have HOx0_4 := hid (own_below HOx0_3.out hb4)
    clear HB0_3 HB1_3 HB2_3 HB3_3 HOw0_3 HOx0_3
    have HB4_4 : Hid (Below w4.heap.size w4 w4) := hid (Below.refl _ _)
    have HOg0_4 := hid ho4
    have HLg0 := hid (ho4.lt)
    clear hb4 ho4
    go_wp2_with (go_at_call 46; refine (eq_ints L (by omega) _ _ _ (row_in_own HOg0_4.out) (row_in_own HOw0_4.out)).mono ?_; rintro e w5 ⟨rfl, hb5⟩; refine Hid.out ?_)
    refine hid ?_
    have hz5 := hb5.size
    have HB0_5 := hid (HB0_4.out.trans (hb5.mono HB0_4.out.size))
    have HB1_5 := hid (HB1_4.out.trans (hb5.mono HB1_4.out.size))
    have HB2_5 := hid (HB2_4.out.trans (hb5.mono HB2_4.out.size))
    have HB3_5 := hid (HB3_4.out.trans (hb5.mono HB3_4.out.size))
    have HB4_5 := hid (HB4_4.out.trans (hb5.mono HB4_4.out.size))
    have HOw0_5 := hid (own_below HOw0_4.out hb5)
    have HOx0_5 := hid (own_below HOx0_4.out hb5)
    have HOg0_5 := hid (own_below HOg0_4.out hb5)
    clear HB0_4 HB1_4 HB2_4 HB3_4 HB4_4 HOw0_4 HOx0_4 HOg0_4
    clear hb5
    go_wp2_with (go_at_call 41; refine (to_fls l hL _ _ (HFa.out.on HB0_5.out)).mono ?_; rintro e w6 ⟨rfl, hb6, ho6⟩; refine Hid.out ?_)
    refine hid ?_
    have hz6 := hb6.size
    have HB0_6 := hid (HB0_5.out.trans (hb6.mono HB0_5.out.size))
    have HB1_6 := hid (HB1_5.out.trans (hb6.mono HB1_5.out.size))
    have HB2_6 := hid (HB2_5.out.trans (hb6.mono HB2_5.out.size))
    have HB3_6 := hid (HB3_5.out.trans (hb6.mono HB3_5.out.size))
    have HB4_6 := hid (HB4_5.out.trans (hb6.mono HB4_5.out.size))
    have HOw0_6 := hid (own_below HOw0_5.out hb6)
    have HOx0_6 := hid (own_below HOx0_5.out hb6)
    have HOg0_6 := hid (own_below HOg0_5.out hb6)
    clear HB0_5 HB1_5 HB2_5 HB3_5 HB4_5 HOw0_5 HOx0_5 HOg0_5
    have HB6_6 : Hid (Below w6.heap.size w6 w6) := hid (Below.refl _ _)
    have HOt2_6 := hid ho6
    have HLt2 := hid (ho6.lt)
    clear hb6 ho6
    go_wp2_with (go_at_call 43; refine (eq_fls l (by omega) _ _ _ (row_fl_own HOx0_6.out) (row_fl_own HOt2_6.out)).mono ?_; rintro e w7 ⟨rfl, hb7⟩; refine Hid.out ?_)
    refine hid ?_
    have hz7 := hb7.size
    have HB0_7 := hid (HB0_6.out.trans (hb7.mono HB0_6.out.size))
    have HB1_7 := hid (HB1_6.out.trans (hb7.mono HB1_6.out.size))
    have HB2_7 := hid (HB2_6.out.trans (hb7.mono HB2_6.out.size))
    have HB3_7 := hid (HB3_6.out.trans (hb7.mono HB3_6.out.size))
    have HB4_7 := hid (HB4_6.out.trans (hb7.mono HB4_6.out.size))
    have HB6_7 := hid (HB6_6.out.trans (hb7.mono HB6_6.out.size))
    have HOw0_7 := hid (own_below HOw0_6.out hb7)
    have HOx0_7 := hid (own_below HOx0_6.out hb7)
    have HOg0_7 := hid (own_below HOg0_6.out hb7)
    have HOt2_7 := hid (own_below HOt2_6.out hb7)
    clear HB0_6 HB1_6 HB2_6 HB3_6 HB4_6 HB6_6 HOw0_6 HOx0_6 HOg0_6 HOt2_6
    clear hb7
    go_wp2_with (go_at_call 47; refine (mark_fls l 1 (by omega) _ _ _ HOx0_7.out).mono ?_; rintro e w8 ⟨rfl, hg8, ho8⟩; refine Hid.out ?_)
    refine hid ?_
    have hz8 := hg8.size
    have HB0_8 := hid (HB0_7.out.trans (grown_to hg8 HB0_7.out.size (fun k hk => by have := (HLx0.out k hk).1; omega)))
    have HB1_8 := hid (HB1_7.out.trans (grown_to hg8 HB1_7.out.size (fun k hk => by have := (HLx0.out k hk).1; omega)))
    have HB2_8 := hid (HB2_7.out.trans (grown_to hg8 HB2_7.out.size (fun k hk => by have := (HLx0.out k hk).1; omega)))
    have HOw0_8 := hid (HOw0_7.out.kept hg8 (kept_apart HLw0.out HLx0.out (by omega)))
    have HOg0_8 := hid (HOg0_7.out.kept hg8 (kept_apart HLg0.out HLx0.out (by omega)))
    have HOx0_8 := hid ho8
    clear HB0_7 HB1_7 HB2_7 HB3_7 HB4_7 HB6_7 HOw0_7 HOx0_7 HOg0_7
    clear hg8 ho8
    go_wp2_with (go_at_call 46; refine (eq_ints L (by omega) _ _ _ (row_in_own HOg0_8.out) (row_in_own HOw0_8.out)).mono ?_; rintro e w9 ⟨rfl, hb9⟩; refine Hid.out ?_)
    refine hid ?_
    have hz9 := hb9.size
    have HB0_9 := hid (HB0_8.out.trans (hb9.mono HB0_8.out.size))
    have HB1_9 := hid (HB1_8.out.trans (hb9.mono HB1_8.out.size))
    have HB2_9 := hid (HB2_8.out.trans (hb9.mono HB2_8.out.size))
    have HOw0_9 := hid (own_below HOw0_8.out hb9)
    have HOg0_9 := hid (own_below HOg0_8.out hb9)
    clear HB0_8 HB1_8 HB2_8 HOw0_8 HOg0_8
    clear hb9
    go_wp2_with (go_at_call 48; refine (mark_ints L 1 (by omega) _ _ _ HOg0_9.out).mono ?_; rintro e w10 ⟨rfl, hg10, ho10⟩; refine Hid.out ?_)
    refine hid ?_
    have hz10 := hg10.size
    have HB0_10 := hid (HB0_9.out.trans (grown_to hg10 HB0_9.out.size (fun k hk => by have := (HLg0.out k hk).1; omega)))
    have HB1_10 := hid (HB1_9.out.trans (grown_to hg10 HB1_9.out.size (fun k hk => by have := (HLg0.out k hk).1; omega)))
    have HB2_10 := hid (HB2_9.out.trans (grown_to hg10 HB2_9.out.size (fun k hk => by have := (HLg0.out k hk).1; omega)))
    have HOw0_10 := hid (HOw0_9.out.kept hg10 (kept_apart HLw0.out HLg0.out (by omega)))
    have HOg0_10 := hid ho10
    clear HB0_9 HB1_9 HB2_9 HOw0_9 HOg0_9
    clear hg10 ho10
    go_wp2_with (go_at_call 49; refine (held_ints 1 L.length (by omega) _ _ (imarks_row HOg0_10.out)).mono ?_; rintro e w11 ⟨rfl, hb11⟩; refine Hid.out ?_)
    refine hid ?_
    have hz11 := hb11.size
    have HB0_11 := hid (HB0_10.out.trans (hb11.mono HB0_10.out.size))
    have HB1_11 := hid (HB1_10.out.trans (hb11.mono HB1_10.out.size))
    have HB2_11 := hid (HB2_10.out.trans (hb11.mono HB2_10.out.size))
    have HOw0_11 := hid (own_below HOw0_10.out hb11)
    have HOg0_11 := hid (own_below HOg0_10.out hb11)
    clear HB0_10 HB1_10 HB2_10 HOw0_10 HOg0_10
    clear hb11
    go_wp2_with (go_at_call 41; refine (to_fls l hL _ _ (HFa.out.on HB0_11.out)).mono ?_; rintro e w12 ⟨rfl, hb12, ho12⟩; refine Hid.out ?_)
    refine hid ?_
    have hz12 := hb12.size
    have HB0_12 := hid (HB0_11.out.trans (hb12.mono HB0_11.out.size))
    have HB1_12 := hid (HB1_11.out.trans (hb12.mono HB1_11.out.size))
    have HB2_12 := hid (HB2_11.out.trans (hb12.mono HB2_11.out.size))
    have HOw0_12 := hid (own_below HOw0_11.out hb12)
    have HOg0_12 := hid (own_below HOg0_11.out hb12)
    clear HB0_11 HB1_11 HB2_11 HOw0_11 HOg0_11
    have HB12_12 : Hid (Below w12.heap.size w12 w12) := hid (Below.refl _ _)
    have HOt3_12 := hid ho12
    have HLt3 := hid (ho12.lt)
    clear hb12 ho12
    go_wp2_with (go_at_call 45; refine (CI.out _ _ (row_fl_own HOt3_12.out)).mono ?_; rintro e w13 ⟨sv13, rfl, hb13, ho13⟩; refine Hid.out ?_)
    refine hid ?_
    have hz13 := hb13.size
    have HB0_13 := hid (HB0_12.out.trans (hb13.mono HB0_12.out.size))
    have HB1_13 := hid (HB1_12.out.trans (hb13.mono HB1_12.out.size))
    have HB2_13 := hid (HB2_12.out.trans (hb13.mono HB2_12.out.size))
    have HB12_13 := hid (HB12_12.out.trans (hb13.mono HB12_12.out.size))
    have HOw0_13 := hid (own_below HOw0_12.out hb13)
    have HOg0_13 := hid (own_below HOg0_12.out hb13)
    have HOt3_13 := hid (own_below HOt3_12.out hb13)
    clear HB0_12 HB1_12 HB2_12 HB12_12 HOw0_12 HOg0_12 HOt3_12
    have HB13_13 : Hid (Below w13.heap.size w13 w13) := hid (Below.refl _ _)
    have HOh0_13 := hid ho13
    have HLh0 := hid (ho13.lt)
    clear hb13 ho13
    go_wp2_with (go_at_call 46; refine (eq_ints L (by omega) _ _ _ (row_in_own HOh0_13.out) (row_in_own HOw0_13.out)).mono ?_; rintro e w14 ⟨rfl, hb14⟩; refine Hid.out ?_)
    refine hid ?_
    have hz14 := hb14.size
    have HB0_14 := hid (HB0_13.out.trans (hb14.mono HB0_13.out.size))
    have HB1_14 := hid (HB1_13.out.trans (hb14.mono HB1_13.out.size))
    have HB2_14 := hid (HB2_13.out.trans (hb14.mono HB2_13.out.size))
    have HB12_14 := hid (HB12_13.out.trans (hb14.mono HB12_13.out.size))
    have HB13_14 := hid (HB13_13.out.trans (hb14.mono HB13_13.out.size))
    have HOw0_14 := hid (own_below HOw0_13.out hb14)
    have HOg0_14 := hid (own_below HOg0_13.out hb14)
    have HOh0_14 := hid (own_below HOh0_13.out hb14)
    clear HB0_13 HB1_13 HB2_13 HB12_13 HB13_13 HOw0_13 HOg0_13 HOh0_13
    clear hb14
    go_wp2_with (go_at_call 49; refine (held_ints 1 L.length (by omega) _ _ (imarks_row HOg0_14.out)).mono ?_; rintro e w15 ⟨rfl, hb15⟩; refine Hid.out ?_)
    refine hid ?_
    have hz15 := hb15.size
    have HB0_15 := hid (HB0_14.out.trans (hb15.mono HB0_14.out.size))
    have HB1_15 := hid (HB1_14.out.trans (hb15.mono HB1_14.out.size))
    have HB2_15 := hid (HB2_14.out.trans (hb15.mono HB2_14.out.size))
    have HB12_15 := hid (HB12_14.out.trans (hb15.mono HB12_14.out.size))
    have HB13_15 := hid (HB13_14.out.trans (hb15.mono HB13_14.out.size))
    have HOw0_15 := hid (own_below HOw0_14.out hb15)
    have HOg0_15 := hid (own_below HOg0_14.out hb15)
    have HOh0_15 := hid (own_below HOh0_14.out hb15)
    clear HB0_14 HB1_14 HB2_14 HB12_14 HB13_14 HOw0_14 HOg0_14 HOh0_14
    clear hb15
    go_wp2
    go_ret
    exact ⟨rfl, HB0_15.out⟩
  · go_enter Try.func14, Try.ntmps14
    go_wp2
    go_ret
    exact ⟨rfl, Below.refl _ _⟩

end Go.Proofs.Ytcpbofgfnbiieaa
