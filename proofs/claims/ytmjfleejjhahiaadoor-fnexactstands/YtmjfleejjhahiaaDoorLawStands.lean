/- The law on Stands, walked: it answers true. -/
import Derived.Test.YtmjfleejjhahiaaDoorImplStands
namespace Go.Proofs.YtmjfleejjhahiaaDoor
open Go.RowKit
open Go.Lib (hid)

theorem stands_spec (t sub : ByteArray) (w : World) (ht : t.size ≤ 1048576) (hsub : sub.size ≤ 1048576) :
    Calls Tryd.prog 42 #[.string t, .string sub] w fun e w' => e = .returned (.bool (standsB t sub)) ∧ Below w.heap.size w w' := by
  have K1 := hid (fun w => kind_spec t w ht)
  have K2 := hid (fun w => kind_spec sub w hsub)
  by_cases h0 : (nodeOf t).1 = 0
  · have hs : standsB t sub = false := by unfold standsB; rw [decide_eq_false]; exact fun h => h.1 h0
    rw [hs]
    rw [h0] at K1
    clear h0 hs
    go_enter Tryd.func42, Tryd.ntmps42
    go_wp2_with (go_at_call_of 58 (Value.string t); refine (K1.out _).mono ?_; rintro e w1 ⟨rfl, hb⟩; refine Hid.out ?_)
    refine hid ?_
    go_wp2
    go_ret
    exact ⟨rfl, hb⟩
  · obtain ⟨h4, hno⟩ := nodeOf_pos h0
    have hk : 0 < (((nodeOf t).1 : Nat) : Int) := by omega
    by_cases h1 : (nodeOf sub).1 = 0
    · have hs : standsB t sub = false := by unfold standsB; rw [decide_eq_false]; exact fun h => h.2.1 h1
      rw [hs]
      rw [h1] at K2
      clear h0 hs h1 hno
      generalize (nodeOf t).1 = k at *
      go_enter Tryd.func42, Tryd.ntmps42
      go_wp2_with (first | (go_at_call_of 58 (Value.string t); refine (K1.out _).mono ?_; rintro e w1 ⟨rfl, hb⟩; refine Hid.out ?_))
      refine hid ?_
      go_wp2_with (first | (go_at_call_of 58 (Value.string sub); refine (K2.out _).mono ?_; rintro e w2 ⟨rfl, hb2⟩; refine Hid.out ?_))
      refine hid ?_
      go_wp2
      go_ret
      exact ⟨rfl, hb.trans (hb2.mono hb.size)⟩
    · have hk1 : 0 < (((nodeOf sub).1 : Nat) : Int) := by omega
      have hs : standsB t sub = decide (sub.data.toList ∈ allS 40 t.data.toList) := by
        unfold standsB
        by_cases hm : sub.data.toList ∈ allS 40 t.data.toList
        · rw [decide_eq_true hm, decide_eq_true ⟨h0, h1, hm⟩]
        · rw [decide_eq_false hm, decide_eq_false (fun h => hm h.2.2)]
      have hlen := allS_len 40 t.data.toList (by rw [← hno]; exact h0)
      have htl : t.data.toList.length = t.size := by simp
      have A1 := hid (fun w => all_all 40 (by omega) t w h4 (by rw [← hno]; exact h0))
      rw [hs]
      clear h0 hs h1 hno
      generalize (nodeOf t).1 = k at *
      generalize (nodeOf sub).1 = k1 at *
      generalize allS 40 t.data.toList = al at *
      go_enter Tryd.func42, Tryd.ntmps42
      go_wp2_with (first | (go_at_call_of 58 (Value.string t); refine (K1.out _).mono ?_; rintro e w1 ⟨rfl, hb⟩; refine Hid.out ?_))
      refine hid ?_
      go_wp2_with (first | (go_at_call_of 58 (Value.string sub); refine (K2.out _).mono ?_; rintro e w2 ⟨rfl, hb2⟩; refine Hid.out ?_))
      refine hid ?_
      go_wp2_with (go_at_call 86; refine (A1.out _).mono ?_; rintro e w3 ⟨sv, rfl, hb3, ho3⟩; refine Hid.out ?_)
      refine hid ?_
      have HT := hid (texts_of ho3)
      clear ho3
      go_wp2_with (go_at_call 85; refine (has_calls al (by omega) _ _ _ HT.out).mono ?_; rintro e w4 ⟨rfl, hb4⟩; refine Hid.out ?_)
      refine hid ?_
      have hfin := ((hb.trans (hb2.mono hb.size)).trans (hb3.mono (by have := hb.size; have := hb2.size; omega))).trans (hb4.mono (by have := hb.size; have := hb2.size; have := hb3.size; omega))
      have HF := hid hfin
      clear hfin hb hb2 hb3 hb4
      go_wp2
      go_ret
      exact ⟨rfl, HF.out⟩

theorem law_calls (t sub : ByteArray) (w : World) (hT : Tab w) (hG : 0 < w.heap.size) :
    Calls Tryd.prog 10 #[.string t, .string sub] w fun e w' => e = .returned (.bool true) ∧ Below w.heap.size w w' := by
  by_cases hs : t.size ≤ 1048576
  · have hd1 : decide ((t.size : Int) > 1048576) = false := decide_eq_false (by omega)
    by_cases hs2 : sub.size ≤ 1048576
    · have hd2 : decide ((sub.size : Int) > 1048576) = false := decide_eq_false (by omega)
      have HT := hid hT
      clear hT
      go_enter Tryd.func10, Tryd.ntmps10
      go_wp2_with (first | (go_at_call 42; refine (stands_spec t sub _ hs hs2).mono ?_; rintro e w1 ⟨rfl, hb1⟩; refine Hid.out ?_))
      refine hid ?_
      have hG1 := Nat.lt_of_lt_of_le hG hb1.size
      have HT1 := hid (HT.out.on hG hb1)
      have HB1 := hid hb1
      clear hb1
      go_wp2_with (first | (go_at_call 19; refine (stands_impl t sub _ HT1.out hG1).mono ?_; rintro e w2 ⟨rfl, hb2⟩; refine Hid.out ?_))
      refine hid ?_
      have HB2 := hid (HB1.out.trans (hb2.mono HB1.out.size))
      clear hb2
      generalize standsB t sub = b at *
      cases b
      all_goals
        go_wp2
        go_ret
        exact ⟨rfl, HB2.out⟩
    · have hd2 : decide ((sub.size : Int) > 1048576) = true := decide_eq_true (by omega)
      clear hT
      go_enter Tryd.func10, Tryd.ntmps10
      go_wp2
      go_ret
      exact ⟨rfl, Below.refl _ _⟩
  · have hd1 : decide ((t.size : Int) > 1048576) = true := decide_eq_true (by omega)
    clear hT
    go_enter Tryd.func10, Tryd.ntmps10
    go_wp2
    go_ret
    exact ⟨rfl, Below.refl _ _⟩
end Go.Proofs.YtmjfleejjhahiaaDoor
