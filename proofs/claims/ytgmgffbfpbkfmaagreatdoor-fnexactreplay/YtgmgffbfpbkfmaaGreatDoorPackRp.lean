/- Laid together: RpEq, RpBoth. -/
import Derived.Test.YtgmgffbfpbkfmaaGreatDoorShelfR
import Derived.Test.YtgmgffbfpbkfmaaGreatDoorMakePlain
import Derived.Test.YtgmgffbfpbkfmaaGreatDoorMarks
import Derived.Test.YtgmgffbfpbkfmaaGreatDoorPackImg
import Derived.Test.YtgmgffbfpbkfmaaGreatDoorPackFold
import Derived.Test.YtgmgffbfpbkfmaaGreatDoorArgTexts

namespace Go.Proofs.YtgmgffbfpbkfmaaGreatDoor
open Go.RowKit
open Go.Lib (hid)

theorem rp_drewN {B : Nat} {w : World} (q : Nat) : Below B w (w.drewN q) := ⟨rfl, rfl, rfl, Nat.le_refl _, fun _ _ => rfl⟩

theorem rp_inj {x t : List UInt8} (h : bytesOf x = bytesOf t) : x = t := by
  have := congrArg (fun b : ByteArray => b.data.toList) h
  simpa only [bytesOf_list] using this

theorem rp_map {ps qs : List (List UInt8)} : ps.map bytesOf = qs.map bytesOf ↔ ps = qs :=
  ⟨fun h => by
    induction ps generalizing qs with
    | nil => cases qs with
      | nil => rfl
      | cons _ _ => cases h
    | cons x xs ih => cases qs with
      | nil => cases h
      | cons y ys =>
        injection h with h1 h2
        rw [rp_inj h1, ih h2], fun h => by rw [h]⟩

theorem equal_texts (ps qs : List (List UInt8)) (hn : ps.length ≤ 1048576) (hm : qs.length ≤ 1048576) (a b : Value) (w : World) (ha : TextsAt w a ps) (hb : TextsAt w b qs) :
    Calls Tryz.prog 59 #[a, b] w fun e w' => e = .returned (.bool (decide (ps = qs))) ∧ Below w.heap.size w w' := by
  obtain ⟨p, c, rfl, hp⟩ := ha
  obtain ⟨q, d, rfl, hq⟩ := hb
  by_cases hl : ps.length = qs.length
  · cases ps with
    | nil =>
      refine (Tryz.slices_Equal_string_empty p q c qs.length d w (by omega)).mono fun e w' ⟨he, hw⟩ => ⟨?_, by rw [hw]; exact Below.refl _ _⟩
      rw [he]
      have : qs = [] := List.eq_nil_of_length_eq_zero hl.symm
      subst this
      rfl
    | cons x xs =>
      obtain ⟨g, rfl, hg, hc⟩ := hp (by simp)
      obtain ⟨g2, rfl, hg2, hc2⟩ := hq (fun h => by rw [h] at hl; cases hl)
      refine (Tryz.slices_Equal_string g 0 (x :: xs).length c g2 0 qs.length d ((x :: xs).map bytesOf) (qs.map bytesOf) w (by simp) (by simp) (by omega) (by omega) ?_ ?_).mono fun e w' ⟨he, k, hw⟩ => ⟨?_, by rw [hw]; exact rp_drewN k⟩
      · intro j hj
        rw [List.length_map] at hj
        rw [Nat.zero_add, hc j hj, List.getD_eq_getElem?_getD, List.getElem?_map, List.getElem?_eq_getElem hj]
        rfl
      · intro j hj
        rw [List.length_map] at hj
        rw [Nat.zero_add, hc2 j hj, List.getD_eq_getElem?_getD, List.getElem?_map, List.getElem?_eq_getElem hj]
        rfl
      · rw [he, List.take_of_length_le (by simp), List.take_of_length_le (by simp)]
        by_cases h : x :: xs = qs
        · rw [decide_eq_true (rp_map.2 h), decide_eq_true h]
        · rw [decide_eq_false (fun h2 => h (rp_map.1 h2)), decide_eq_false h]
  · refine (Tryz.slices_Equal_string_lens p q ps.length c qs.length d w hl).mono fun e w' ⟨he, hw⟩ => ⟨?_, by rw [hw]; exact Below.refl _ _⟩
    rw [he, decide_eq_false (fun h => hl (by rw [h]))]
end Go.Proofs.YtgmgffbfpbkfmaaGreatDoor

namespace Go.Proofs.YtgmgffbfpbkfmaaGreatDoor
open Go.RowKit
open Go.Lib (hid)

/-- What is shown of the fold of these events is this list. -/
def foldsB (es : List EventD) (ls : List (List UInt8)) (mask : Int) : Bool :=
  (foldOut es).2 && ((shownOut (foldOut es).1 mask).2 && decide ((shownOut (foldOut es).1 mask).1 = ls))

/-- What Replay answers. -/
def rpOut (es : List EventD) (ls : List (List UInt8)) (mask : Int) : List ImageD × Int × Int :=
  if (imgOut es).2.1 = 0 then if foldsB es ls mask = true then ((imgOut es).1, 0, -1) else ([], 5, -1) else ([], (imgOut es).2.1, (imgOut es).2.2)

theorem rpOut_few (es : List EventD) (ls : List (List UInt8)) (mask : Int) : (rpOut es ls mask).1.length ≤ 60 := by
  unfold rpOut
  split
  · split
    · exact imgOut_few es
    · exact Nat.zero_le _
  · exact Nat.zero_le _

def RpPost (es : List EventD) (ls : List (List UInt8)) (mask : Int) (w : World) (e : Ending) (w' : World) : Prop :=
  ∃ sv, e = .returned (.tuple #[sv, .int .i64 (rpOut es ls mask).2.1, .int .i64 (rpOut es ls mask).2.2]) ∧ Below w.heap.size w w' ∧ w'.ownsRow w.heap.size 66 2 sv (rpOut es ls mask).1.length (flat encImage (rpOut es ls mask).1)

theorem fold_lens (es : List EventD) : (foldOut es).1.length ≤ 8 ∧ ∀ p ∈ (foldOut es).1, p.length ≤ 4000 := by
  unfold foldOut
  split
  · cases hf : foldO (resets 8) es with
    | none => exact ⟨Nat.zero_le _, fun p hp => by cases hp⟩
    | some q =>
      have h := reg_short (fold_regs es _ q resets_regs hf)
      exact ⟨Nat.le_of_eq h.1, h.2⟩
  · exact ⟨Nat.zero_le _, fun p hp => by cases hp⟩

set_option maxRecDepth 20000 in
set_option maxHeartbeats 4000000 in
theorem rp_spec (es : List EventD) (hs : ∀ e ∈ es, e.x1.size ≤ 1048576) (hn : es.length ≤ 1048576) (ls : List (List UInt8)) (mask : Int) (a b : Value) (w : World) (ha : FRow encEvent 2 w a es) (hb : TextsAt w b ls) :
    Calls Tryz.prog 39 #[a, b, .int .i64 mask] w (RpPost es ls mask w) := by
  unfold RpPost
  obtain ⟨w1, hw1⟩ : ∃ W, W = w.alloc (.cells #[] 66) := ⟨_, rfl⟩
  have HB1 : Hid (Below w.heap.size w w1) := hid (by rw [hw1]; exact (Below.refl _ _).alloc (Nat.le_refl _) _)
  have HN1 : Hid (w1.ownsRow w.heap.size 66 2 (.slice (some ⟨w.heap.size, 0, none⟩) 0 0) 0 []) := hid (by rw [hw1]; exact none_images w)
  have HW1 := hid hw1
  clear hw1
  have HA := hid ha
  have HL := hid hb
  have CI := hid (fun W h => img_spec es hs hn a W h)
  have CF := hid (fun W h => fold_spec es hs hn a W h)
  have hlens := fold_lens es
  have CS := hid (fun v W h => shown_spec (foldOut es).1 (fun p hp => Nat.le_trans (hlens.2 p hp) (by decide)) (Nat.le_trans hlens.1 (by decide)) mask v W h)
  have hsf := shown_few (foldOut es).1 mask
  have CE := hid (fun v W h1 h2 => same_calls (shownOut (foldOut es).1 mask).1 ls (by omega) v b W h1 h2)
  unfold ImgPost at CI
  unfold FoldPost at CF
  unfold ShownPost at CS
  clear hs ha hb hlens hsf
  obtain ⟨R, hR⟩ : ∃ R, R = rpOut es ls mask := ⟨_, rfl⟩
  rw [← hR]
  unfold rpOut foldsB at hR
  have HR := hid hR
  clear hR
  generalize (imgOut es).2.1 = code at *
  generalize (imgOut es).2.2 = at' at *
  generalize (imgOut es).1 = im at *
  generalize (foldOut es).2 = fb at *
  generalize (shownOut (foldOut es).1 mask).2 = sb at *
  generalize (shownOut (foldOut es).1 mask).1 = L at *
  generalize (foldOut es).1 = regs at *
  go_enter Tryz.func39, Tryz.ntmps39
  go_wp2_with (go_at_call 31; rw [← HW1.out]; refine (CI.out _ (HA.out.on HB1.out)).mono ?_; rintro e w2 ⟨sv2, rfl, hb2, ho2⟩; refine Hid.out ?_)
  refine hid ?_
  have HB2 := hid (HB1.out.trans (hb2.mono HB1.out.size))
  have HN2 := hid (own_below HN1.out hb2)
  have HO2 := hid (own_base ho2 HB1.out.size)
  clear hb2 ho2
  by_cases hc : code = 0
  · subst hc
    rw [if_pos rfl] at HR
    go_wp2_with (go_at_call 50; refine (CF.out _ (HA.out.on HB2.out)).mono ?_; rintro e w3 ⟨sv3, rfl, hb3, ho3⟩; refine Hid.out ?_)
    refine hid ?_
    have HB3 := hid (HB2.out.trans (hb3.mono HB2.out.size))
    have HN3 := hid (own_below HN2.out hb3)
    have HO3 := hid (own_below HO2.out hb3)
    have HT3 := hid (texts_of ho3)
    clear hb3 ho3
    cases fb with
    | false =>
      have HZ : Hid (R = ([], 5, -1)) := hid HR.out
      go_wp2
      go_ret3
      exact ⟨_, by rw [HZ.out]; rfl, HB3.out, by rw [HZ.out]; exact HN3.out⟩
    | true =>
      go_wp2_with (go_at_call 97; refine (CS.out _ _ HT3.out).mono ?_; rintro e w4 ⟨sv4, rfl, hb4, ho4⟩; refine Hid.out ?_)
      refine hid ?_
      have HB4 := hid (HB3.out.trans (hb4.mono HB3.out.size))
      have HN4 := hid (own_below HN3.out hb4)
      have HO4 := hid (own_below HO3.out hb4)
      have HT4 := hid (texts_of ho4)
      clear hb4 ho4
      cases sb with
      | false =>
        have HZ : Hid (R = ([], 5, -1)) := hid HR.out
        go_wp2
        go_ret3
        exact ⟨_, by rw [HZ.out]; rfl, HB4.out, by rw [HZ.out]; exact HN4.out⟩
      | true =>
        by_cases hl : L = ls
        · rw [decide_eq_true hl] at HR CE
          have HZ : Hid (R = (im, 0, -1)) := hid HR.out
          clear hl
          go_wp2_with (go_at_call 51; refine (CE.out _ _ HT4.out (HL.out.on HB4.out)).mono ?_; rintro e w5 ⟨rfl, hb5⟩; refine Hid.out ?_)
          refine hid ?_
          have HB5 := hid (HB4.out.trans (hb5.mono HB4.out.size))
          have HO5 := hid (own_below HO4.out hb5)
          clear hb5
          go_wp2
          go_ret3
          exact ⟨_, by rw [HZ.out]; rfl, HB5.out, by rw [HZ.out]; exact HO5.out⟩
        · rw [decide_eq_false hl] at HR CE
          have HZ : Hid (R = ([], 5, -1)) := hid HR.out
          clear hl
          go_wp2_with (go_at_call 51; refine (CE.out _ _ HT4.out (HL.out.on HB4.out)).mono ?_; rintro e w5 ⟨rfl, hb5⟩; refine Hid.out ?_)
          refine hid ?_
          have HB5 := hid (HB4.out.trans (hb5.mono HB4.out.size))
          have HN5 := hid (own_below HN4.out hb5)
          clear hb5
          go_wp2
          go_ret3
          exact ⟨_, by rw [HZ.out]; rfl, HB5.out, by rw [HZ.out]; exact HN5.out⟩
  · have HZ : Hid (R = ([], code, at')) := hid (HR.out.trans (if_neg hc))
    have hcb : (code != 0) = true := by simp [hc]
    go_wp2
    go_ret3
    exact ⟨_, by rw [HZ.out]; rfl, HB2.out, by rw [HZ.out]; exact HN2.out⟩

set_option maxRecDepth 20000 in
set_option maxHeartbeats 4000000 in
theorem foldsTo_impl (es : List EventD) (hn : es.length ≤ 1048576) (ls : List (List UInt8)) (hm : ls.length ≤ 1048576) (mask : Int) (a b : Value) (w : World) (ha : FRow encEvent 2 w a es) (hb : TextsAt w b ls) (hT : Tab w) (hG : 0 < w.heap.size) :
    Calls Tryz.prog 98 #[a, b, .int .i64 mask] w fun e w' => e = .returned (.bool (foldsB es ls mask)) ∧ Below w.heap.size w w' := by
  have HT := hid hT
  have HL := hid hb
  have CF := hid (fold_impl es hn a w ha hT hG)
  have hlens := fold_lens es
  have CS := hid (fun p c W h hT hG => shown_impl (foldOut es).1 (Nat.le_trans hlens.1 (by decide)) mask p c W h hT hG)
  have hsf := shown_few (foldOut es).1 mask
  have CE := hid (fun v W h1 h2 => equal_texts (shownOut (foldOut es).1 mask).1 ls (by omega) hm v b W h1 h2)
  unfold FoldPost at CF
  unfold ShownPost at CS
  unfold foldsB
  clear ha hb hlens hsf hT
  generalize (foldOut es).2 = fb at *
  generalize (shownOut (foldOut es).1 mask).2 = sb at *
  generalize (shownOut (foldOut es).1 mask).1 = L at *
  generalize (foldOut es).1 = regs at *
  go_enter Tryz.func98, Tryz.ntmps98
  go_wp2_with (go_at_call 58; refine CF.out.mono ?_; rintro e w3 ⟨sv3, rfl, hb3, ho3⟩; refine Hid.out ?_)
  refine hid ?_
  obtain ⟨p3, c3, rfl, _⟩ := own_shape ho3
  have HB3 := hid hb3
  have HT3 := hid (texts_of ho3)
  clear hb3 ho3
  cases fb with
  | false =>
    go_wp2
    go_ret
    exact ⟨rfl, HB3.out⟩
  | true =>
    go_wp2_with (go_at_call 155; refine (CS.out _ _ _ HT3.out (tab_on HT.out hG HB3.out) (Nat.lt_of_lt_of_le hG HB3.out.size)).mono ?_; rintro e w4 ⟨sv4, rfl, hb4, ho4⟩; refine Hid.out ?_)
    refine hid ?_
    have HB4 := hid (HB3.out.trans (hb4.mono HB3.out.size))
    have HT4 := hid (texts_of ho4)
    clear hb4 ho4
    cases sb with
    | false =>
      go_wp2
      go_ret
      exact ⟨rfl, HB4.out⟩
    | true =>
      by_cases hl : L = ls
      · have HLL := hid (decide_eq_true hl)
        rw [HLL.out] at CE
        go_wp2_with (go_at_call 59; refine (CE.out _ _ HT4.out (HL.out.on HB4.out)).mono ?_; rintro e w5 ⟨rfl, hb5⟩; refine Hid.out ?_)
        refine hid ?_
        have HB5 := hid (HB4.out.trans (hb5.mono HB4.out.size))
        clear hb5
        go_wp2
        go_ret
        exact ⟨by rw [HLL.out] <;> rfl, HB5.out⟩
      · have HLL := hid (decide_eq_false hl)
        rw [HLL.out] at CE
        go_wp2_with (go_at_call 59; refine (CE.out _ _ HT4.out (HL.out.on HB4.out)).mono ?_; rintro e w5 ⟨rfl, hb5⟩; refine Hid.out ?_)
        refine hid ?_
        have HB5 := hid (HB4.out.trans (hb5.mono HB4.out.size))
        clear hb5
        go_wp2
        go_ret
        exact ⟨by rw [HLL.out] <;> rfl, HB5.out⟩

set_option maxRecDepth 20000 in
set_option maxHeartbeats 4000000 in
theorem rp_impl (es : List EventD) (hn : es.length ≤ 1048576) (ls : List (List UInt8)) (hm : ls.length ≤ 1048576) (mask : Int) (a b : Value) (w : World) (ha : FRow encEvent 2 w a es) (hb : TextsAt w b ls) (hT : Tab w) (hG : 0 < w.heap.size) (hLd : Num.Laid w) :
    Calls Tryz.prog 41 #[a, b, .int .i64 mask] w (RpPost es ls mask w) := by
  unfold RpPost
  have HT := hid hT
  have HA := hid ha
  have HL := hid hb
  have CI := hid (img_impl es hn a w ha hT hG hLd)
  have CF := hid (fun W h1 h2 h3 h4 => foldsTo_impl es hn ls hm mask a b W h1 h2 h3 h4)
  unfold ImgPost at CI
  clear ha hb hT hLd
  obtain ⟨R, hR⟩ : ∃ R, R = rpOut es ls mask := ⟨_, rfl⟩
  rw [← hR]
  unfold rpOut at hR
  have HR := hid hR
  clear hR
  generalize (imgOut es).2.1 = code at *
  generalize (imgOut es).2.2 = at' at *
  generalize (imgOut es).1 = im at *
  generalize foldsB es ls mask = fb at *
  go_enter Tryz.func41, Tryz.ntmps41
  go_wp2_with (go_at_call 33; refine CI.out.mono ?_; rintro e w2 ⟨sv2, rfl, hb2, ho2⟩; refine Hid.out ?_)
  refine hid ?_
  have HB2 := hid hb2
  have HO2 := hid ho2
  clear hb2 ho2
  by_cases hc : code = 0
  · subst hc
    rw [if_pos rfl] at HR
    go_wp2_with (go_at_call 98; refine (CF.out _ (HA.out.on HB2.out) (HL.out.on HB2.out) (tab_on HT.out hG HB2.out) (Nat.lt_of_lt_of_le hG HB2.out.size)).mono ?_; rintro e w3 ⟨rfl, hb3⟩; refine Hid.out ?_)
    refine hid ?_
    have HB3 := hid (HB2.out.trans (hb3.mono HB2.out.size))
    have HO3 := hid (own_below HO2.out hb3)
    clear hb3
    cases fb with
    | false =>
      have HZ : Hid (R = ([], 5, -1)) := hid HR.out
      go_wp2
      go_ret3
      exact ⟨_, by rw [HZ.out]; rfl, HB3.out, by rw [HZ.out]; exact nil_images _ _⟩
    | true =>
      have HZ : Hid (R = (im, 0, -1)) := hid HR.out
      go_wp2
      go_ret3
      exact ⟨_, by rw [HZ.out]; rfl, HB3.out, by rw [HZ.out]; exact HO3.out⟩
  · have HZ : Hid (R = ([], code, at')) := hid (HR.out.trans (if_neg hc))
    have hcb : (code != 0) = true := by simp [hc]
    go_wp2
    go_ret3
    exact ⟨_, by rw [HZ.out]; rfl, HB2.out, by rw [HZ.out]; exact nil_images _ _⟩
end Go.Proofs.YtgmgffbfpbkfmaaGreatDoor
