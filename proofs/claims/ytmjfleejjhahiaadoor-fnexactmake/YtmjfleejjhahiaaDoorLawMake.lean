/- The law on Make, walked: it answers true. -/
import Derived.Test.YtmjfleejjhahiaaDoorMakeImpl
import Derived.Test.YtmjfleejjhahiaaDoorArgTexts
namespace Go.Proofs.YtmjfleejjhahiaaDoor
open Go.RowKit
open Go.Lib (hid)

set_option maxRecDepth 20000 in
set_option maxHeartbeats 2000000 in
theorem law_calls (kind : Int) (ps : List (List UInt8)) (hs : ∀ p ∈ ps, p.length ≤ 9223372036854775807) (hn : ps.length ≤ 9223372036854775807) (a : Value) (w : World) (ha : ArgAt w a ps) (hT : Tab w) (hG : 0 < w.heap.size) :
    Calls Tryd.prog 9 #[.int .i64 kind, a] w fun e w' => e = .returned (.bool true) ∧ Below w.heap.size w w' := by
  have HA := hid ha
  have HT := hid hT
  obtain ⟨p0, c0, rfl, _⟩ := ha
  obtain ⟨b, hb⟩ : ∃ b, madeB kind ps = b := ⟨_, rfl⟩
  obtain ⟨y, hy⟩ : ∃ y : ByteArray, (if b = true then bytesOf (tmWith kind.toNat ps) else ⟨#[]⟩) = y := ⟨_, rfl⟩
  have MS : Hid (∀ a w, TextsAt w a ps → Calls Tryd.prog 17 #[.int .i64 kind, a] w fun e w' => e = .returned (.tuple #[.string y, .bool b]) ∧ Below w.heap.size w w') :=
    hid (fun a w ha => by rw [← hy, ← hb]; exact make_spec kind ps a w ha)
  have MI : Hid (∀ p c w, ps.length ≤ c → TextsAt w (.slice p ps.length c) ps → Tab w → 0 < w.heap.size → Calls Tryd.prog 18 #[.int .i64 kind, .slice p ps.length c] w fun e w' => e = .returned (.tuple #[.string y, .bool b]) ∧ Below w.heap.size w w') :=
    hid (fun p c w hc ha hT hG => by rw [← hy, ← hb]; exact make_impl kind ps p c hc w ha hT hG)
  have hyy : (y.toList == y.toList) = true := same_yes rfl
  have hbb : (b != b) = false := by cases b <;> rfl
  clear hT hb hy
  go_enter Tryd.func9, Tryd.ntmps9
  go_wp2_with (go_at_call 40; refine (sz_calls ps hs hn _ _ HA.out).mono ?_; rintro e w1 ⟨⟨r, rfl, hr⟩, hb1⟩; refine Hid.out ?_)
  refine hid ?_
  have HB1 := hid hb1
  have hz1 := hb1.size
  rcases hr with hr | ⟨hr, htot⟩
  · clear hb1
    go_wp2
    go_ret
    exact ⟨rfl, HB1.out⟩
  · have hn2 : ps.length ≤ 1048576 := by omega
    have hr2 : ¬ r < 0 := by omega
    have HA1 := hid (HA.out.on hb1)
    have hG1 := Nat.lt_of_lt_of_le hG hz1
    clear hb1
    go_wp2_with (go_at_call 41; refine (to_calls ps hn2 _ _ HA1.out).mono ?_; rintro e w2 ⟨s2, rfl, hb2, ho2⟩; refine Hid.out ?_)
    refine hid ?_
    have HB2 := hid (HB1.out.trans (hb2.mono hz1))
    have hz2 := hb2.size
    have HX2 := hid (texts_of ho2)
    clear hb2 ho2
    go_wp2_with (go_at_call 17; refine (MS.out _ _ HX2.out).mono ?_; rintro e w3 ⟨rfl, hb3⟩; refine Hid.out ?_)
    refine hid ?_
    have HB3 := hid (HB2.out.trans (hb3.mono HB2.out.size))
    have hz3 := hb3.size
    clear hb3
    have HA3 := hid (HA.out.on HB3.out)
    go_wp2_with (go_at_call 41; refine (to_calls ps hn2 _ _ HA3.out).mono ?_; rintro e w4 ⟨s4, rfl, hb4, ho4⟩; refine Hid.out ?_)
    refine hid ?_
    obtain ⟨p4, c4, rfl, hcap4⟩ := own_shape ho4
    have HB4 := hid (HB3.out.trans (hb4.mono HB3.out.size))
    have hz4 := hb4.size
    have HX4 := hid (texts_of ho4)
    have HT4 := hid (tab_on HT.out hG HB4.out)
    have hG4 := Nat.lt_of_lt_of_le hG HB4.out.size
    clear hb4 ho4
    go_wp2_with (go_at_call 18; refine (MI.out p4 c4 _ hcap4 HX4.out HT4.out hG4).mono ?_; rintro e w5 ⟨rfl, hb5⟩; refine Hid.out ?_)
    refine hid ?_
    have HB5 := hid (HB4.out.trans (hb5.mono HB4.out.size))
    have hz5 := hb5.size
    have HX5 := hid (HX4.out.on hb5)
    clear hb5
    have HA5 := hid (HA.out.on HB5.out)
    go_wp2_with (go_at_call 41; refine (to_calls ps hn2 _ _ HA5.out).mono ?_; rintro e w6 ⟨s6, rfl, hb6, ho6⟩; refine Hid.out ?_)
    refine hid ?_
    have HB6 := hid (HB5.out.trans (hb6.mono HB5.out.size))
    have HX6 := hid (HX5.out.on hb6)
    have HY6 := hid (texts_of ho6)
    clear hb6 ho6
    go_wp2_with (go_at_call 37; refine (eq_same ps (by omega) _ _ _ HX6.out HY6.out).mono ?_; rintro e w7 ⟨rfl, hb7⟩; refine Hid.out ?_)
    refine hid ?_
    have HB7 := hid (HB6.out.trans (hb7.mono HB6.out.size))
    clear hb7
    go_wp2
    go_ret
    exact ⟨rfl, HB7.out⟩
end Go.Proofs.YtmjfleejjhahiaaDoor
