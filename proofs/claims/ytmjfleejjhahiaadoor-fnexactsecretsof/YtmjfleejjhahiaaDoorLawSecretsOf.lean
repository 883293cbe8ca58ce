/- The law on SecretsOf, walked: it answers true. -/
import Derived.Test.YtmjfleejjhahiaaDoorFaceParts
import Derived.Test.YtmjfleejjhahiaaDoorSpecSecrets
import Derived.Test.YtmjfleejjhahiaaDoorImplSecrets
namespace Go.Proofs.YtmjfleejjhahiaaDoor
open Go.RowKit
open Go.Lib (hid)

theorem Tab.on {w w' : World} (h : Tab w) (hG : 0 < w.heap.size) (hb : Below w.heap.size w w') : Tab w' := fun k h3 h7 => by
  have hr := h k h3 h7
  exact ⟨(hb.cell (p := ⟨0, k * 4, none⟩) hG).trans hr.word, (hb.cell (p := ⟨0, k * 4 + 1, none⟩) hG).trans hr.least, (hb.cell (p := ⟨0, k * 4 + 2, none⟩) hG).trans hr.most, (hb.cell (p := ⟨0, k * 4 + 3, none⟩) hG).trans hr.first⟩

theorem grown_to {B : Nat} {v w : World} {row : Option Nat} (h : v.grownBy w row) (hB : B ≤ v.heap.size) (hr : ∀ k, row = some k → B ≤ k) : Below B v w :=
  ⟨h.os, h.tape, h.output, h.size, fun k hk => h.block k (Nat.lt_of_lt_of_le hk hB) (fun e => by have := hr k e.symm; omega)⟩

theorem marks_texts {w : World} {base n : Nat} {sv : Value} {k : Nat} (h : w.ownsRow base 9 1 sv n (strs (marks k n))) : TextsAt w sv (marks k n) := by
  have hl := marks_len k n
  exact texts_of (by rw [hl]; exact h)

set_option maxRecDepth 20000 in
set_option maxHeartbeats 2000000 in
theorem law_calls (s : ByteArray) (w : World) (hT : Tab w) (hG : 0 < w.heap.size) :
    Calls Tryd.prog 11 #[.string s] w fun e w' => e = .returned (.bool true) ∧ Below w.heap.size w w' := by
  by_cases hs : s.size ≤ 1048576
  · have hdec2 : decide ((s.size : Int) > 1048576) = false := decide_eq_false (by omega)
    have HT := hid hT
    have R1 := hid (secrets_spec s w hs)
    clear hT
    go_enter Tryd.func11, Tryd.ntmps11
    go_wp2_with (go_at_call 43; refine R1.out.mono ?_; rintro e w1 ⟨sv, ps, rfl, hb1, ho1, hr1, hm1, hfew⟩; refine Hid.out ?_)
    refine hid ?_
    have hG1 := Nat.lt_of_lt_of_le hG hb1.size
    have HT1 := hid (HT.out.on hG hb1)
    have hz1 := hb1.size
    have HB1 := hid hb1
    have HO1 := hid ho1
    have R2 : Hid (∀ w, Tab w → 0 < w.heap.size → Calls Tryd.prog 44 #[.string s] w fun e w' => ∃ sv, e = .returned sv ∧ Below w.heap.size w w' ∧ w'.ownsRow w.heap.size 9 1 sv ps.length (strs ps)) :=
      hid (fun w hT hG => (secrets_impl s w hT hG).mono fun e w' ⟨sv, qs, he, hb, ho, hr, hm⟩ => by
        have e2 : qs = ps := rising_unique hr hr1 (fun x => (hm x).trans (hm1 x).symm)
        subst e2
        exact ⟨sv, he, hb, ho⟩)
    clear hb1 ho1 hr1 hm1
    go_wp2_with (go_at_call 44; refine (R2.out _ HT1.out hG1).mono ?_; rintro e w2 ⟨sv1, rfl, hb2, ho2⟩; refine Hid.out ?_)
    refine hid ?_
    have hz2 := hb2.size
    have HB2 := hid hb2
    have HO2 := hid ho2
    clear hb2 ho2
    go_wp2_with (go_at_call 37; refine (eq_same ps (by omega) _ _ _ (texts_of HO2.out) ((texts_of HO1.out).on HB2.out)).mono ?_; rintro e w3 ⟨rfl, hb3⟩; refine Hid.out ?_)
    refine hid ?_
    have hz3 := hb3.size
    have HO3 := hid (own_below HO2.out hb3)
    have HB3 := hid (HB2.out.trans (hb3.mono hz2))
    clear hb3
    go_wp2_with (go_at_call 38; refine (mark_calls ps 1 (by omega) (by omega) _ _ _ HO3.out).mono ?_; rintro e w4 ⟨rfl, hg4, ho4⟩; refine Hid.out ?_)
    refine hid ?_
    have hz4 := hg4.size
    have HO4 := hid ho4
    have HB4 := hid (HB3.out.trans (grown_to hg4 (Nat.le_trans hz2 hz3) (fun k hk => (HO3.out.lt k hk).1)))
    clear hg4 ho4
    go_wp2_with (go_at_call 39; refine (held_calls 1 ps.length (by omega) (by omega) _ _ (marks_texts HO4.out)).mono ?_; rintro e w5 ⟨rfl, hb5⟩; refine Hid.out ?_)
    refine hid ?_
    have hz5 := hb5.size
    have HO5 := hid (own_below HO4.out hb5)
    have HB5 := hid (HB4.out.trans (hb5.mono (by omega)))
    clear hb5
    have hG5 : 0 < w5.heap.size := by omega
    have HT5 := hid (HT1.out.on hG1 HB5.out)
    go_wp2_with (go_at_call 44; refine (R2.out _ HT5.out hG5).mono ?_; rintro e w6 ⟨sv2, rfl, hb6, ho6⟩; refine Hid.out ?_)
    refine hid ?_
    have hz6 := hb6.size
    have HO6 := hid (own_below HO5.out hb6)
    have HP6 := hid ho6
    have HB6 := hid (HB5.out.trans (hb6.mono (by omega)))
    clear hb6 ho6
    go_wp2_with (go_at_call 37; refine (eq_same ps (by omega) _ _ _ (texts_of HP6.out) ((texts_of HO1.out).on HB6.out)).mono ?_; rintro e w7 ⟨rfl, hb7⟩; refine Hid.out ?_)
    refine hid ?_
    have hz7 := hb7.size
    have HO7 := hid (own_below HO6.out hb7)
    have HB7 := hid (HB6.out.trans (hb7.mono (by omega)))
    clear hb7
    go_wp2_with (go_at_call 39; refine (held_calls 1 ps.length (by omega) (by omega) _ _ (marks_texts HO7.out)).mono ?_; rintro e w8 ⟨rfl, hb8⟩; refine Hid.out ?_)
    refine hid ?_
    have HB8 := hid (HB7.out.trans (hb8.mono (by omega)))
    clear hb8
    go_wp2
    go_ret
    exact ⟨rfl, HB1.out.trans (HB8.out.mono hz1)⟩
  · have hdec2 : decide ((s.size : Int) > 1048576) = true := decide_eq_true (by omega)
    clear hT
    go_enter Tryd.func11, Tryd.ntmps11
    go_wp2
    go_ret
    exact ⟨rfl, Below.refl _ _⟩
end Go.Proofs.YtmjfleejjhahiaaDoor
