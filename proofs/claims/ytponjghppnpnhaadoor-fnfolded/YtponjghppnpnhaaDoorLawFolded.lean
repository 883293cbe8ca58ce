/- FnFolded, walked: it answers true. -/
import Derived.Test.YtponjghppnpnhaaDoorDrawEvents
import Derived.Test.YtponjghppnpnhaaDoorFoldSpec
import Derived.Test.YtponjghppnpnhaaDoorFoldImpl
import Derived.Test.YtponjghppnpnhaaDoorClCallsD
namespace Go.Proofs.YtponjghppnpnhaaDoor
open Go.RowKit
open Go.Lib (hid)

theorem texts_same (ps : List (List UInt8)) (hn : ps.length ≤ 1000000000) (a b : Value) (w : World) (ha : TextsAt w a ps) (hb : TextsAt w b ps) :
    Calls Tryd.prog 54 #[a, b] w fun e w' => e = .returned (.bool true) ∧ Below w.heap.size w w' := by
  obtain ⟨p, c, rfl, hp⟩ := ha
  obtain ⟨q, e, rfl, hq⟩ := hb
  have HP := hid hp
  have HQ := hid hq
  clear hp hq
  go_enter Tryd.func54, Tryd.ntmps54
  go_wp2
  go_loopw [5] (fun iv wr => ∃ i : Nat, i ≤ ps.length ∧ iv = .int .i64 i ∧ Below w.heap.size w wr) (fun iv _ => ps.length - (RowKit.intOf iv).toNat)
  case atStart => exact ⟨0, Nat.zero_le _, rfl, Below.refl _ _⟩
  case round =>
    obtain ⟨i, hi, rfl, hbel⟩ := hrel
    by_cases hlt : i < ps.length
    · have hne : ps ≠ [] := fun h => by rw [h] at hlt; cases hlt
      obtain ⟨g, rfl, hk⟩ := HP.out hne
      obtain ⟨g2, rfl, hk2⟩ := HQ.out hne
      have hc1 := (hk.on hbel).2 i hlt
      have hc2 := (hk2.on hbel).2 i hlt
      clear hk hk2
      obtain ⟨x, hx⟩ : ∃ x : ByteArray, x = ⟨ps[i].toArray⟩ := ⟨_, rfl⟩
      rw [← hx] at hc1 hc2
      go_wp2
      go_quiet (fail)
      go_wp2
      go_roundw
      case rel => exact ⟨i + 1, by omega, by go_num, drewN_below hbel _⟩
      case measure => simp [RowKit.intOf]; omega
    · have hie : i = ps.length := by omega
      subst hie
      go_wp2
      go_ret
      exact ⟨rfl, hbel⟩

theorem big_calls (q : Option Addr) (n c : Nat) (w : World) : Calls Tryd.prog 50 #[.slice q n c] w fun e w' => e = .returned (.bool (decide ((n : Int) > 1048576))) ∧ w' = w := by
  go_enter Tryd.func50, Tryd.ntmps50
  go_wp2
  go_ret
  exact ⟨rfl, rfl⟩

theorem fold_ok {es : List EventD} (h : (foldOut es).2 = true) : ∃ q, foldOut es = (q, true) ∧ foldO (resets 8) es = some q ∧ es.length ≤ 60 := by
  unfold foldOut at h ⊢
  by_cases hl : es.length ≤ 60
  · rw [if_pos hl] at h ⊢
    cases hf : foldO (resets 8) es with
    | none => rw [hf] at h; cases h
    | some q => exact ⟨q, rfl, rfl, hl⟩
  · rw [if_neg hl] at h; cases h

theorem fold_eight {es : List EventD} : ∀ {ps q : List (List UInt8)}, ps.length = 8 → foldO ps es = some q → q.length = 8 := by
  induction es with
  | nil => intro ps q h hq; injection hq with hq; subst hq; exact h
  | cons e r ih =>
    intro ps q h hq
    unfold foldO at hq
    split at hq
    · refine ih ?_ hq
      rename_i hx
      have := ext_regs hx
      rw [regB_iff] at this
      exact this.1
    · cases hq

theorem fold_short2 (es : List EventD) {r : List (List UInt8)} (h : foldOut es = (r, true)) : r.length ≤ 1048576 := by
  obtain ⟨q, h1, h2, _⟩ := fold_ok (es := es) (by rw [h])
  rw [h] at h1
  injection h1 with h1
  subst h1
  have := fold_eight (ps := resets 8) (by decide) h2
  omega

theorem fold_short (es : List EventD) : (foldOut es).1.length ≤ 1000000000 := by
  cases hok : (foldOut es).2 with
  | true =>
    have := fold_short2 es (r := (foldOut es).1) (by rw [← hok])
    omega
  | false =>
    unfold foldOut at hok ⊢
    split
    · rename_i hl
      rw [if_pos hl] at hok
      cases hf : foldO (resets 8) es with
      | none => exact Nat.zero_le _
      | some q => rw [hf] at hok; cases hok
    · exact Nat.zero_le _

theorem fold_last {L : List EventD} {e : EventD} {q : List (List UInt8)} (h : foldO (resets 8) (L ++ [e]) = some q) (hl : (L ++ [e]).length ≤ 60) : ∃ r, foldOut L = (r, true) ∧ extOut r e.x0 e.x1.data.toList = (q, true) := by
  rw [foldO_append] at h
  cases hf : foldO (resets 8) L with
  | none => rw [hf] at h; cases h
  | some r =>
    rw [hf] at h
    have h2 : (if (extOut r e.x0 e.x1.data.toList).2 = true then some (extOut r e.x0 e.x1.data.toList).1 else none) = some q := h
    by_cases hx : (extOut r e.x0 e.x1.data.toList).2 = true
    · rw [if_pos hx] at h2
      injection h2 with h2
      refine ⟨r, ?_, ?_⟩
      · unfold foldOut
        rw [List.length_append] at hl
        rw [if_pos (by omega), hf]
        rfl
      · rw [← h2, ← hx]
    · rw [if_neg hx] at h2; cases h2

theorem frow_last {W : World} {v : Value} {L : List EventD} {e : EventD} (h : FRow encEvent 2 W v (L ++ [e])) : ∃ g o c, v = .slice (some ⟨g, o, none⟩) (L.length + 1) c ∧ L.length + 1 ≤ c ∧ g < W.heap.size ∧ W.cell? ⟨g, o + L.length * 2, none⟩ = some (.int .i64 e.x0) ∧ W.cell? ⟨g, o + L.length * 2 + 1, none⟩ = some (.string e.x1) ∧ FRow encEvent 2 W (.slice (some ⟨g, o, none⟩) L.length c) L := by
  obtain ⟨p, c, rfl, hc, hp⟩ := h
  obtain ⟨g, o, rfl, hg, hcell⟩ := hp (by simp)
  have hl : (L ++ [e]).length = L.length + 1 := by simp
  rw [hl] at hc
  have hlast : ∀ j, j < 2 → W.cell? ⟨g, o + L.length * 2 + j, none⟩ = (encEvent e)[j]? := fun j hj => by
    have := hcell L.length (by rw [hl]; omega) j hj
    simpa using this
  refine ⟨g, o, c, by rw [hl], hc, hg, hlast 0 (by decide), hlast 1 (by decide), some ⟨g, o, none⟩, c, rfl, by omega, fun _ => ⟨g, o, rfl, hg, fun i hi j hj => ?_⟩⟩
  have := hcell i (by rw [hl]; omega) j hj
  rw [List.getElem_append_left hi] at this
  exact this

set_option maxRecDepth 20000 in
set_option maxHeartbeats 4000000 in
theorem drawn_fold (w : World) (q : Option Addr) (n c : Nat) (hn : n ≤ 1048576) (hq : ∀ i, i < n → ∃ ad : Addr, q = some ad ∧ ad.block < w.heap.size ∧ ∃ x : Int, 0 ≤ x ∧ x < 256 ∧ w.cell? (ad.add i) = some (.int .u8 x)) :
    Calls Tryd.prog 51 #[.slice q n c] w fun e w' => ∃ v es, e = .returned v ∧ es.length ≤ 61 ∧ (∀ x ∈ es, x.x1.size ≤ 4000) ∧ Below w.heap.size w w' ∧ FRow encEvent 2 w' v es := by
  have HQ := hid hq
  clear hq
  go_enter Tryd.func51, Tryd.ntmps51
  go_wp2_with (go_at_call 102; refine (d_open _ q n c hn HQ.out).mono ?_; rintro e w1 ⟨rfl, hr1, hb1⟩; refine Hid.out ?_)
  refine hid ?_
  have HR1 := hid hr1
  have HB1 := hid hb1
  clear hr1 hb1
  go_wp2_with (go_at_call 103; refine (d_events _ _ _ _ _ HR1.out).mono ?_; rintro e w2 ⟨v, es, rfl, hl, hg⟩; refine Hid.out ?_)
  refine hid ?_
  have HG := hid hg
  clear hg
  go_wp2
  go_ret
  exact ⟨v, es, rfl, hl, HG.out.small, HB1.out.trans ⟨HG.out.step.os, HG.out.step.tape, HG.out.step.output, HG.out.step.size, fun k hk => HG.out.step.block k (Nat.lt_of_lt_of_le hk HB1.out.size) (by omega)⟩, row_of_own encEvent_len HG.out.own⟩

def TBytes (w : World) (q : Option Addr) (n : Nat) : Prop := ∀ i, i < n → ∃ ad : Addr, q = some ad ∧ ad.block < w.heap.size ∧ ∃ x : Int, 0 ≤ x ∧ x < 256 ∧ w.cell? (ad.add i) = some (.int .u8 x)

set_option maxRecDepth 20000 in
set_option maxHeartbeats 4000000 in
theorem law_folded (q : Option Addr) (n c : Nat) (w : World) (hq : ∀ i, i < n → ∃ ad : Addr, q = some ad ∧ ad.block < w.heap.size ∧ ∃ x : Int, 0 ≤ x ∧ x < 256 ∧ w.cell? (ad.add i) = some (.int .u8 x)) (hT : Tab w) (hG : 0 < w.heap.size) :
    Calls Tryd.prog 11 #[.slice q n c] w fun e w' => e = .returned (.bool true) ∧ Below w.heap.size w w' := by
  have HTAB := hid hT
  have HQ := hid hq
  clear hT hq
  by_cases hn : n ≤ 1048576
  · have hd : decide ((n : Int) > 1048576) = false := decide_eq_false (by omega)
    have BC := hid (big_calls q n c)
    rw [hd] at BC
    clear hd
    have HB0_0 : Hid (Below w.heap.size w w) := hid (Below.refl _ _)
    have hz0 : w.heap.size ≤ w.heap.size := Nat.le_refl _
    go_enter Tryd.func11, Tryd.ntmps11
    go_wp2_with (go_at_call 50; refine (BC.out _).mono ?_; rintro e wq ⟨rfl, eq⟩; rw [eq]; clear eq wq; refine Hid.out ?_)
    refine hid ?_
    go_wp2_with (go_at_call 51; refine (drawn_fold _ q n c hn HQ.out).mono ?_; rintro e w1 ⟨v, es, rfl, hl, hsm, hb1, hf1⟩; refine Hid.out ?_)
    refine hid ?_
    have hz1 := hb1.size
    have HB0_1 := hid (HB0_0.out.trans (hb1.mono HB0_0.out.size))
    have HB1_1 : Hid (Below w1.heap.size w1 w1) := hid (Below.refl _ _)
    have HFe := hid (hf1)
    clear hf1
    clear hb1
    have hs : ∀ x ∈ es, x.x1.size ≤ 1048576 := fun x hx => by have := hsm x hx; omega
    have CS := hid (fun W (h : FRow encEvent 2 W v es) => fold_spec es hs (by omega) v W h)
    have CI := hid (fun W (h : FRow encEvent 2 W v es) hT hG => fold_impl es (by omega) v W h hT hG)
    unfold FoldPost at CS CI
    clear hsm hs
    have hR : (foldOut es).1.length ≤ 1000000000 := fold_short es
    cases hok : (foldOut es).2 with
    | false =>
      rw [hok] at CS CI
      clear hok
      go_wp2_with (go_at_call 52; refine (CS.out _ (HFe.out.on HB1_1.out)).mono ?_; rintro e w2 ⟨sv2, rfl, hb2, ho2⟩; refine Hid.out ?_)
      refine hid ?_
      have hz2 := hb2.size
      have HB0_2 := hid (HB0_1.out.trans (hb2.mono HB0_1.out.size))
      have HB1_2 := hid (HB1_1.out.trans (hb2.mono HB1_1.out.size))
      clear HB0_1 HB1_1
      have HB2_2 : Hid (Below w2.heap.size w2 w2) := hid (Below.refl _ _)
      have HFs := hid (texts_of ho2)
      clear ho2
      clear hb2
      go_wp2_with (go_at_call 53; refine (CI.out _ (HFe.out.on HB1_2.out) (tab_on HTAB.out hG HB0_2.out) (Nat.lt_of_lt_of_le hG HB0_2.out.size)).mono ?_; rintro e w3 ⟨sv3, rfl, hb3, ho3⟩; refine Hid.out ?_)
      refine hid ?_
      have hz3 := hb3.size
      have HB0_3 := hid (HB0_2.out.trans (hb3.mono HB0_2.out.size))
      have HB1_3 := hid (HB1_2.out.trans (hb3.mono HB1_2.out.size))
      have HB2_3 := hid (HB2_2.out.trans (hb3.mono HB2_2.out.size))
      clear HB0_2 HB1_2 HB2_2
      have HB3_3 : Hid (Below w3.heap.size w3 w3) := hid (Below.refl _ _)
      have HFi := hid (texts_of ho3)
      clear ho3
      clear hb3
      go_wp2_with (go_at_call 54; refine (texts_same (foldOut es).1 hR _ _ _ (HFi.out.on HB3_3.out) (HFs.out.on HB2_3.out)).mono ?_; rintro e w4 ⟨rfl, hb4⟩; refine Hid.out ?_)
      refine hid ?_
      have hz4 := hb4.size
      have HB0_4 := hid (HB0_3.out.trans (hb4.mono HB0_3.out.size))
      have HB1_4 := hid (HB1_3.out.trans (hb4.mono HB1_3.out.size))
      have HB2_4 := hid (HB2_3.out.trans (hb4.mono HB2_3.out.size))
      have HB3_4 := hid (HB3_3.out.trans (hb4.mono HB3_3.out.size))
      clear HB0_3 HB1_3 HB2_3 HB3_3
      clear hb4
      go_wp2
      go_ret
      exact ⟨rfl, HB0_4.out⟩
    | true =>
      obtain ⟨r, hr, hfo, hl60⟩ := fold_ok hok
      rw [hr] at CS CI hR
      clear hok
      dsimp only at CS CI hR
      by_cases hz : es = []
      · subst hz
        injection hfo with hfo
        subst hfo
        obtain ⟨p, cc, hve, _, _⟩ := HFe.out
        have hve2 : v = .slice p 0 cc := hve
        subst hve2
        clear hve
        go_wp2_with (go_at_call 52; refine (CS.out _ (HFe.out.on HB1_1.out)).mono ?_; rintro e w2 ⟨sv2, rfl, hb2, ho2⟩; refine Hid.out ?_)
        refine hid ?_
        have hz2 := hb2.size
        have HB0_2 := hid (HB0_1.out.trans (hb2.mono HB0_1.out.size))
        have HB1_2 := hid (HB1_1.out.trans (hb2.mono HB1_1.out.size))
        clear HB0_1 HB1_1
        have HB2_2 : Hid (Below w2.heap.size w2 w2) := hid (Below.refl _ _)
        have HFs := hid (texts_of ho2)
        clear ho2
        clear hb2
        go_wp2_with (go_at_call 53; refine (CI.out _ (HFe.out.on HB1_2.out) (tab_on HTAB.out hG HB0_2.out) (Nat.lt_of_lt_of_le hG HB0_2.out.size)).mono ?_; rintro e w3 ⟨sv3, rfl, hb3, ho3⟩; refine Hid.out ?_)
        refine hid ?_
        have hz3 := hb3.size
        have HB0_3 := hid (HB0_2.out.trans (hb3.mono HB0_2.out.size))
        have HB1_3 := hid (HB1_2.out.trans (hb3.mono HB1_2.out.size))
        have HB2_3 := hid (HB2_2.out.trans (hb3.mono HB2_2.out.size))
        clear HB0_2 HB1_2 HB2_2
        have HB3_3 : Hid (Below w3.heap.size w3 w3) := hid (Below.refl _ _)
        have HFi := hid (texts_of ho3)
        clear ho3
        clear hb3
        go_wp2_with (go_at_call 54; refine (texts_same (resets 8) hR _ _ _ (HFi.out.on HB3_3.out) (HFs.out.on HB2_3.out)).mono ?_; rintro e w4 ⟨rfl, hb4⟩; refine Hid.out ?_)
        refine hid ?_
        have hz4 := hb4.size
        have HB0_4 := hid (HB0_3.out.trans (hb4.mono HB0_3.out.size))
        have HB1_4 := hid (HB1_3.out.trans (hb4.mono HB1_3.out.size))
        have HB2_4 := hid (HB2_3.out.trans (hb4.mono HB2_3.out.size))
        have HB3_4 := hid (HB3_3.out.trans (hb4.mono HB3_3.out.size))
        clear HB0_3 HB1_3 HB2_3 HB3_3
        clear hb4
        go_wp2_with (go_at_call 55; refine (cleared_calls _).mono ?_; rintro e w5 ⟨sv5, rfl, hb5, ho5⟩; refine Hid.out ?_)
        refine hid ?_
        have hz5 := hb5.size
        have HB0_5 := hid (HB0_4.out.trans (hb5.mono HB0_4.out.size))
        have HB1_5 := hid (HB1_4.out.trans (hb5.mono HB1_4.out.size))
        have HB2_5 := hid (HB2_4.out.trans (hb5.mono HB2_4.out.size))
        have HB3_5 := hid (HB3_4.out.trans (hb5.mono HB3_4.out.size))
        clear HB0_4 HB1_4 HB2_4 HB3_4
        have HB5_5 : Hid (Below w5.heap.size w5 w5) := hid (Below.refl _ _)
        have HFk := hid (texts_of ho5)
        clear ho5
        clear hb5
        go_wp2_with (go_at_call 54; refine (texts_same (resets 8) hR _ _ _ (HFi.out.on HB3_5.out) (HFk.out.on HB5_5.out)).mono ?_; rintro e w6 ⟨rfl, hb6⟩; refine Hid.out ?_)
        refine hid ?_
        have hz6 := hb6.size
        have HB0_6 := hid (HB0_5.out.trans (hb6.mono HB0_5.out.size))
        have HB1_6 := hid (HB1_5.out.trans (hb6.mono HB1_5.out.size))
        have HB2_6 := hid (HB2_5.out.trans (hb6.mono HB2_5.out.size))
        have HB3_6 := hid (HB3_5.out.trans (hb6.mono HB3_5.out.size))
        have HB5_6 := hid (HB5_5.out.trans (hb6.mono HB5_5.out.size))
        clear HB0_5 HB1_5 HB2_5 HB3_5 HB5_5
        clear hb6
        go_wp2
        go_ret
        exact ⟨rfl, HB0_6.out⟩
      · obtain ⟨L, e, rfl⟩ : ∃ L e, es = L ++ [e] := ⟨es.dropLast, es.getLast hz, (List.dropLast_concat_getLast hz).symm⟩
        obtain ⟨r2, hr2, hx⟩ := fold_last hfo hl60
        obtain ⟨g, o, cc, rfl, hcc, hg, hc0, hc1, hfl⟩ := frow_last HFe.out
        have HFL := hid hfl
        have HC0 := hid hc0
        have HC1 := hid hc1
        have hn8 : L.length ≤ 60 := by rw [List.length_append] at hl60; omega
        have CL := hid (fun W (h : FRow encEvent 2 W (.slice (some ⟨g, o, none⟩) L.length cc) L) hT hG => fold_impl L (by omega) _ W h hT hG)
        unfold FoldPost at CL
        rw [hr2] at CL
        dsimp only at CL
        have hR2 : r2.length ≤ 1048576 := by have := fold_short L; rw [hr2] at this; dsimp only at this; exact fold_short2 L hr2
        have CE := hid (fun p4 c4 W (h : TextsAt W (.slice p4 r2.length c4) r2) hT hG => ext_impl r2 hR2 e.x0 e.x1 p4 c4 W h hT hG)
        unfold ExtPost at CE
        rw [hx] at CE
        dsimp only at CE
        clear hr2 hx hfl hc0 hc1 hfo hr hl60 hz hl
        generalize L.length = m at *
        obtain ⟨e0, e1⟩ := e
        dsimp only at *
        have hidx : ((m + 1 : Nat) : Int) - 1 = (m : Int) := by omega
        have hnz : (((m + 1 : Nat) : Int) == 0) = false := by rw [beq_eq_false_iff_ne]; omega
        go_wp2_with (go_at_call 52; refine (CS.out _ (HFe.out.on HB1_1.out)).mono ?_; rintro e w2 ⟨sv2, rfl, hb2, ho2⟩; refine Hid.out ?_)
        refine hid ?_
        have hz2 := hb2.size
        have HB0_2 := hid (HB0_1.out.trans (hb2.mono HB0_1.out.size))
        have HB1_2 := hid (HB1_1.out.trans (hb2.mono HB1_1.out.size))
        clear HB0_1 HB1_1
        have HB2_2 : Hid (Below w2.heap.size w2 w2) := hid (Below.refl _ _)
        have HFs := hid (texts_of ho2)
        clear ho2
        clear hb2
        go_wp2_with (go_at_call 53; refine (CI.out _ (HFe.out.on HB1_2.out) (tab_on HTAB.out hG HB0_2.out) (Nat.lt_of_lt_of_le hG HB0_2.out.size)).mono ?_; rintro e w3 ⟨sv3, rfl, hb3, ho3⟩; refine Hid.out ?_)
        refine hid ?_
        have hz3 := hb3.size
        have HB0_3 := hid (HB0_2.out.trans (hb3.mono HB0_2.out.size))
        have HB1_3 := hid (HB1_2.out.trans (hb3.mono HB1_2.out.size))
        have HB2_3 := hid (HB2_2.out.trans (hb3.mono HB2_2.out.size))
        clear HB0_2 HB1_2 HB2_2
        have HB3_3 : Hid (Below w3.heap.size w3 w3) := hid (Below.refl _ _)
        have HFi := hid (texts_of ho3)
        clear ho3
        clear hb3
        go_wp2_with (go_at_call 54; refine (texts_same r hR _ _ _ (HFi.out.on HB3_3.out) (HFs.out.on HB2_3.out)).mono ?_; rintro e w4 ⟨rfl, hb4⟩; refine Hid.out ?_)
        refine hid ?_
        have hz4 := hb4.size
        have HB0_4 := hid (HB0_3.out.trans (hb4.mono HB0_3.out.size))
        have HB1_4 := hid (HB1_3.out.trans (hb4.mono HB1_3.out.size))
        have HB2_4 := hid (HB2_3.out.trans (hb4.mono HB2_3.out.size))
        have HB3_4 := hid (HB3_3.out.trans (hb4.mono HB3_3.out.size))
        clear HB0_3 HB1_3 HB2_3 HB3_3
        clear hb4
        have c0 := (HB1_4.out.cell (p := ⟨g, o + m * 2, none⟩) hg).trans HC0.out
        have c1 := (HB1_4.out.cell (p := ⟨g, o + m * 2 + 1, none⟩) hg).trans HC1.out
        obtain ⟨w5, hw5⟩ : ∃ W, W = w4.alloc (.cells #[.int .i64 e0, .string e1] 95) := ⟨_, rfl⟩
        have hb5 : Below w4.heap.size w4 w5 := by rw [hw5]; exact (Below.refl _ _).alloc (Nat.le_refl _) _
        have hz5 : w4.heap.size < w5.heap.size := by rw [hw5]; simp
        have HVZ_5 : Hid (w5.heap[w4.heap.size]? = some (.cells #[.int .i64 e0, .string e1] 95)) := hid (by rw [hw5]; exact heap_alloc_new _ _)
        have HW5 := hid hw5
        have HB0_5 := hid (HB0_4.out.trans (hb5.mono HB0_4.out.size))
        have HB1_5 := hid (HB1_4.out.trans (hb5.mono HB1_4.out.size))
        have HB2_5 := hid (HB2_4.out.trans (hb5.mono HB2_4.out.size))
        have HB3_5 := hid (HB3_4.out.trans (hb5.mono HB3_4.out.size))
        clear HB0_4 HB1_4 HB2_4 HB3_4
        clear hw5 hb5
        go_wp2_with (go_at_call 53; rw [← HW5.out]; refine (CL.out _ (HFL.out.on HB1_5.out) (tab_on HTAB.out hG HB0_5.out) (Nat.lt_of_lt_of_le hG HB0_5.out.size)).mono ?_; rintro e w6 ⟨sv6, rfl, hb6, ho6⟩; refine Hid.out ?_)
        refine hid ?_
        have hz6 := hb6.size
        have HB0_6 := hid (HB0_5.out.trans (hb6.mono HB0_5.out.size))
        have HB1_6 := hid (HB1_5.out.trans (hb6.mono HB1_5.out.size))
        have HB2_6 := hid (HB2_5.out.trans (hb6.mono HB2_5.out.size))
        have HB3_6 := hid (HB3_5.out.trans (hb6.mono HB3_5.out.size))
        have HVZ_6 := hid ((hb6.block _ (by omega)).trans HVZ_5.out)
        clear HB0_5 HB1_5 HB2_5 HB3_5 HVZ_5
        have HB6_6 : Hid (Below w6.heap.size w6 w6) := hid (Below.refl _ _)
        have HFm := hid (texts_of ho6)
        obtain ⟨p6, c6, rfl, _⟩ := texts_of ho6
        clear ho6
        clear hb6
        clear c0 c1
        have k_Z_0 := (cell_of_row _ _ 0 _ _ _ HVZ_6.out).trans rfl
        have k_Z_1 := (cell_of_row _ _ 1 _ _ _ HVZ_6.out).trans rfl
        go_wp2_with (go_at_call 56; refine (CE.out _ _ _ (HFm.out.on HB6_6.out) (tab_on HTAB.out hG HB0_6.out) (Nat.lt_of_lt_of_le hG HB0_6.out.size)).mono ?_; rintro e w7 ⟨sv7, rfl, hb7, ho7⟩; refine Hid.out ?_)
        refine hid ?_
        clear k_Z_0 k_Z_1
        have hz7 := hb7.size
        have HB0_7 := hid (HB0_6.out.trans (hb7.mono HB0_6.out.size))
        have HB1_7 := hid (HB1_6.out.trans (hb7.mono HB1_6.out.size))
        have HB2_7 := hid (HB2_6.out.trans (hb7.mono HB2_6.out.size))
        have HB3_7 := hid (HB3_6.out.trans (hb7.mono HB3_6.out.size))
        have HB6_7 := hid (HB6_6.out.trans (hb7.mono HB6_6.out.size))
        have HVZ_7 := hid ((hb7.block _ (by omega)).trans HVZ_6.out)
        clear HB0_6 HB1_6 HB2_6 HB3_6 HB6_6 HVZ_6
        have HB7_7 : Hid (Below w7.heap.size w7 w7) := hid (Below.refl _ _)
        have HFx := hid (texts_of ho7)
        clear ho7
        clear hb7
        go_wp2_with (go_at_call 54; refine (texts_same r hR _ _ _ (HFx.out.on HB7_7.out) (HFi.out.on HB3_7.out)).mono ?_; rintro e w8 ⟨rfl, hb8⟩; refine Hid.out ?_)
        refine hid ?_
        have hz8 := hb8.size
        have HB0_8 := hid (HB0_7.out.trans (hb8.mono HB0_7.out.size))
        have HB1_8 := hid (HB1_7.out.trans (hb8.mono HB1_7.out.size))
        have HB2_8 := hid (HB2_7.out.trans (hb8.mono HB2_7.out.size))
        have HB3_8 := hid (HB3_7.out.trans (hb8.mono HB3_7.out.size))
        have HB6_8 := hid (HB6_7.out.trans (hb8.mono HB6_7.out.size))
        have HB7_8 := hid (HB7_7.out.trans (hb8.mono HB7_7.out.size))
        have HVZ_8 := hid ((hb8.block _ (by omega)).trans HVZ_7.out)
        clear HB0_7 HB1_7 HB2_7 HB3_7 HB6_7 HB7_7 HVZ_7
        clear hb8
        go_wp2
        go_ret
        exact ⟨rfl, HB0_8.out⟩
  · have hd : decide ((n : Int) > 1048576) = true := decide_eq_true (by omega)
    have BC := hid (big_calls q n c)
    rw [hd] at BC
    clear hd
    go_enter Tryd.func11, Tryd.ntmps11
    go_wp2_with (go_at_call 50; refine (BC.out _).mono ?_; rintro e w0 ⟨rfl, rfl⟩)
    go_ret
    exact ⟨rfl, Below.refl _ _⟩
end Go.Proofs.YtponjghppnpnhaaDoor
