/- VaultOk, the program's. -/
import Derived.Test.YtponjghppnpnhaaDoorAwayBoth
namespace Go.Proofs.YtponjghppnpnhaaDoor
open Go.RowKit
open Go.Lib (hid)

set_option maxRecDepth 20000 in
set_option maxHeartbeats 4000000 in
theorem areSeals_calls (es : List SealD) (hn : es.length ≤ 1048576) (a : Value) (w : World) (ha : FRow encSeal 4 w a es) (hT : Tab w) (hG : 0 < w.heap.size) :
    Calls Tryd.prog 80 #[a] w fun e w' => e = .returned (.bool (sealsB es es.length)) ∧ Below w.heap.size w w' := by
  have HA := hid ha
  have HT := hid (fun W (hb : Below w.heap.size w W) => tab_on hT hG hb)
  have HGG := hid (fun W (hb : Below w.heap.size w W) => Nat.lt_of_lt_of_le hG hb.size)
  obtain ⟨p, c, rfl, _, hrest⟩ := ha
  clear hrest hT hG
  by_cases h8 : es.length ≤ 8
  · have d8 : ¬ (es.length : Int) > 8 := by omega
    go_enter Tryd.func80, Tryd.ntmps80
    go_wp2
    go_loopw [3, 11] (fun lv iv wr => ∃ i : Nat, i ≤ es.length ∧ iv = .int .i64 i ∧ lv = .int .i64 (lastS es i) ∧ Below w.heap.size w wr ∧ sealsB es i = true) (fun _ iv _ => es.length - (RowKit.intOf iv).toNat)
    case atStart => exact ⟨0, Nat.zero_le _, rfl, by rw [lastS_zero], Below.refl _ _, rfl⟩
    case round =>
      obtain ⟨i, hi, rfl, rfl, hbel, hall⟩ := hrel
      have HB := hid hbel
      have HALL := hid hall
      by_cases hlt : i < es.length
      · have hne : es ≠ [] := fun h => by rw [h] at hlt; cases hlt
        obtain ⟨p', c', hv, _, hp⟩ := HA.out
        obtain ⟨rfl, rfl⟩ : p = p' ∧ c = c' := by injection hv with h1 h2 h3; exact ⟨h1, by omega⟩
        obtain ⟨g, o, rfl, hg, hc⟩ := hp hne
        clear hv hp
        have b1 : (0 : Int) ≤ (i : Int) := by omega
        have b2 : (i : Int) < (es.length : Int) := by omega
        have m0 : wr.cell? ⟨g, o + i * 4, none⟩ = some (.int .i64 es[i].x0) := (hbel.cell (p := ⟨g, o + i * 4, none⟩) hg).trans (hc i hlt 0 (by decide))
        have m1 : wr.cell? ⟨g, o + i * 4 + 1, none⟩ = some (.int .i64 es[i].x1) := (hbel.cell (p := ⟨g, o + i * 4 + 1, none⟩) hg).trans (hc i hlt 1 (by decide))
        have m2 : wr.cell? ⟨g, o + i * 4 + 2, none⟩ = some (.string es[i].x2) := (hbel.cell (p := ⟨g, o + i * 4 + 2, none⟩) hg).trans (hc i hlt 2 (by decide))
        have m3 : wr.cell? ⟨g, o + i * 4 + 3, none⟩ = some (.string es[i].x3) := (hbel.cell (p := ⟨g, o + i * 4 + 3, none⟩) hg).trans (hc i hlt 3 (by decide))
        have HGD := hid (good_last hlt)
        have HLS := hid (lastS_succ hlt)
        clear hc hbel hall
        generalize lastS es i = ls at *
        generalize es[i] = ei at *
        obtain ⟨x0, x1, x2, x3⟩ := ei
        dsimp only at *
        have CR := hid (fun W hT hG => right_impl x0 x1 x2 x3 W hT hG)
        by_cases hls : ls < x0
        · have e1 : decide (x0 ≤ ls) = false := decide_eq_false (by omega)
          have e2 : ¬ x0 ≤ ls := by omega
          rw [decide_eq_true hls, Bool.true_and] at HGD
          generalize sealB ⟨x0, x1, x2, x3⟩ = rs at *
          clear hls
          have hb2 : Below wr.heap.size wr (wr.alloc (.cells #[.int .i64 x0, .int .i64 x1, .string x2, .string x3] 68)) := (Below.refl _ _).alloc (Nat.le_refl _) _
          have HB2 := hid (HB.out.trans (hb2.mono HB.out.size))
          have HV2 : Hid ((wr.alloc (.cells #[.int .i64 x0, .int .i64 x1, .string x2, .string x3] 68)).heap[wr.heap.size]? = some (.cells #[.int .i64 x0, .int .i64 x1, .string x2, .string x3] 68)) := hid (heap_alloc_new _ _)
          clear hb2
          go_wp2_with (go_at_call 136; refine (CR.out _ (HT.out _ HB2.out) (HGG.out _ HB2.out)).mono ?_; rintro e w3 ⟨rfl, hb3⟩; refine Hid.out ?_)
          refine hid ?_
          have HB3 := hid (HB2.out.trans (hb3.mono HB2.out.size))
          have HV3 := hid ((hb3.block _ (by simp)).trans HV2.out)
          clear hb3 m0 m1 m2 m3
          have k0 := (cell_of_row _ _ 0 _ _ _ HV3.out).trans rfl
          cases rs with
          | true =>
            go_wp2
            go_roundw
            case rel => exact ⟨i + 1, by omega, by go_num, by rw [HLS.out], HB3.out, by rw [seals_succ, HALL.out, HGD.out]; rfl⟩
            case measure => simp [RowKit.intOf]; omega
          | false =>
            have HN := hid (seals_no HGD.out hlt)
            go_wp2
            go_ret
            exact ⟨by rw [HN.out] <;> rfl, HB3.out⟩
        · have e1 : x0 ≤ ls := by omega
          rw [decide_eq_false hls, Bool.false_and] at HGD
          have HN := hid (seals_no HGD.out hlt)
          clear hls
          go_wp2
          go_ret
          exact ⟨by rw [HN.out] <;> rfl, HB.out.alloc HB.out.size _⟩
      · have hie : i = es.length := by omega
        subst hie
        go_wp2
        go_ret
        exact ⟨by rw [HALL.out] <;> rfl, HB.out⟩
  · have d8 : (es.length : Int) > 8 := by omega
    have HN : Hid (sealsB es es.length = false) := hid (by cases h : sealsB es es.length with | false => rfl | true => exact absurd (seals_few h) h8)
    clear h8
    go_enter Tryd.func80, Tryd.ntmps80
    go_wp2
    go_ret
    exact ⟨by rw [HN.out] <;> rfl, Below.refl _ _⟩

set_option maxRecDepth 20000 in
set_option maxHeartbeats 4000000 in
theorem vault_impl (es : List SealD) (hn : es.length ≤ 1048576) (st y0 y1 : Int) (y2 y3 : ByteArray) (a : Value) (w : World) (ha : FRow encSeal 4 w a es) (hT : Tab w) (hG : 0 < w.heap.size) :
    Calls Tryd.prog 36 #[.agg #[a, .int .i64 st, .int .i64 y0, .int .i64 y1, .string y2, .string y3]] w fun e w' => e = .returned (.bool (vaultB es st ⟨y0, y1, y2, y3⟩)) ∧ Below w.heap.size w w' := by
  have HFa := hid ha
  have HTAB := hid hT
  have CA := hid (fun W ha hT hG => areSeals_calls es hn a W ha hT hG)
  have CC := hid (fun W hT hG => change_impl y0 y1 y2 y3 W hT hG)
  have HE := hid (fun W => seal_eql y0 0 y1 y2 y3 W)
  have HPB : Hid (vaultB es st ⟨y0, y1, y2, y3⟩ = (sealsB es es.length && pendB st ⟨y0, y1, y2, y3⟩)) := hid rfl
  have HPD : Hid (pendB st ⟨y0, y1, y2, y3⟩ = if st = 0 then (decide (y0 = 0) && bareB ⟨y0, y1, y2, y3⟩) else if st = 1 ∨ st = 2 then (sealB ⟨y0, y1, y2, y3⟩ || awayB ⟨y0, y1, y2, y3⟩) else false) := hid rfl
  obtain ⟨p, c, rfl, _, hrest⟩ := ha
  clear hrest hT
  generalize vaultB es st ⟨y0, y1, y2, y3⟩ = r at *
  generalize pendB st ⟨y0, y1, y2, y3⟩ = rp at *
  generalize sealsB es es.length = rs at *
  generalize (sealB ⟨y0, y1, y2, y3⟩ || awayB ⟨y0, y1, y2, y3⟩) = rc at *
  generalize (decide (y0 = 0) && bareB ⟨y0, y1, y2, y3⟩) = rq at *
  have HB0_0 : Hid (Below w.heap.size w w) := hid (Below.refl _ _)
  have hz0 : w.heap.size ≤ w.heap.size := Nat.le_refl _
  obtain ⟨w1, hw1⟩ : ∃ W, W = w.alloc (.cells #[.slice p es.length c, .int .i64 st, .int .i64 y0, .int .i64 y1, .string y2, .string y3] 70) := ⟨_, rfl⟩
  have hb1 : Below w.heap.size w w1 := by rw [hw1]; exact (Below.refl _ _).alloc (Nat.le_refl _) _
  have hz1 : w.heap.size < w1.heap.size := by rw [hw1]; simp
  have HVV_1 : Hid (w1.heap[w.heap.size]? = some (.cells #[.slice p es.length c, .int .i64 st, .int .i64 y0, .int .i64 y1, .string y2, .string y3] 70)) := hid (by rw [hw1]; exact heap_alloc_new _ _)
  have HW1 := hid hw1
  have HB0_1 := hid (HB0_0.out.trans (hb1.mono HB0_0.out.size))
  clear hw1 hb1
  cases rs with
  | false =>
    rw [Bool.false_and] at HPB
    go_enter Tryd.func36, Tryd.ntmps36
    go_wp2_with (go_at_call 80; rw [← HW1.out]; refine (CA.out _ (HFa.out.on HB0_1.out) (tab_on HTAB.out hG HB0_1.out) (Nat.lt_of_lt_of_le hG HB0_1.out.size)).mono ?_; rintro e w2 ⟨rfl, hb2⟩; refine Hid.out ?_)
    refine hid ?_
    have hz2 := hb2.size
    have HB0_2 := hid (HB0_1.out.trans (hb2.mono HB0_1.out.size))
    have HVV_2 := hid ((hb2.block _ (by omega)).trans HVV_1.out)
    clear HB0_1 HVV_1
    clear hb2
    go_wp2
    go_ret
    exact ⟨by rw [HPB.out] <;> rfl, HB0_2.out⟩
  | true =>
    rw [Bool.true_and] at HPB
    by_cases h0 : st = 0
    · subst h0
      rw [if_pos rfl] at HPD
      go_enter Tryd.func36, Tryd.ntmps36
      go_wp2_with (go_at_call 80; rw [← HW1.out]; refine (CA.out _ (HFa.out.on HB0_1.out) (tab_on HTAB.out hG HB0_1.out) (Nat.lt_of_lt_of_le hG HB0_1.out.size)).mono ?_; rintro e w2 ⟨rfl, hb2⟩; refine Hid.out ?_)
      refine hid ?_
      have hz2 := hb2.size
      have HB0_2 := hid (HB0_1.out.trans (hb2.mono HB0_1.out.size))
      have HVV_2 := hid ((hb2.block _ (by omega)).trans HVV_1.out)
      clear HB0_1 HVV_1
      clear hb2
      have k_V_0 := (cell_of_row _ _ 0 _ _ _ HVV_2.out).trans rfl
      have k_V_1 := (cell_of_row _ _ 1 _ _ _ HVV_2.out).trans rfl
      have k_V_2 := (cell_of_row _ _ 2 _ _ _ HVV_2.out).trans rfl
      have k_V_3 := (cell_of_row _ _ 3 _ _ _ HVV_2.out).trans rfl
      have k_V_4 := (cell_of_row _ _ 4 _ _ _ HVV_2.out).trans rfl
      have k_V_5 := (cell_of_row _ _ 5 _ _ _ HVV_2.out).trans rfl
      have he := HE.out
      go_wp2
      go_ret
      exact ⟨by rw [HPB.out, HPD.out] <;> rfl, HB0_2.out⟩
    · rw [if_neg h0] at HPD
      have e0 : (st == 0) = false := by rw [beq_eq_false_iff_ne]; exact h0
      by_cases h12 : st = 1 ∨ st = 2
      · rw [if_pos h12] at HPD
        clear HE
        rcases h12 with rfl | rfl
        · skip
          go_enter Tryd.func36, Tryd.ntmps36
          go_wp2_with (go_at_call 80; rw [← HW1.out]; refine (CA.out _ (HFa.out.on HB0_1.out) (tab_on HTAB.out hG HB0_1.out) (Nat.lt_of_lt_of_le hG HB0_1.out.size)).mono ?_; rintro e w2 ⟨rfl, hb2⟩; refine Hid.out ?_)
          refine hid ?_
          have hz2 := hb2.size
          have HB0_2 := hid (HB0_1.out.trans (hb2.mono HB0_1.out.size))
          have HVV_2 := hid ((hb2.block _ (by omega)).trans HVV_1.out)
          clear HB0_1 HVV_1
          clear hb2
          have k_V_0 := (cell_of_row _ _ 0 _ _ _ HVV_2.out).trans rfl
          have k_V_1 := (cell_of_row _ _ 1 _ _ _ HVV_2.out).trans rfl
          have k_V_2 := (cell_of_row _ _ 2 _ _ _ HVV_2.out).trans rfl
          have k_V_3 := (cell_of_row _ _ 3 _ _ _ HVV_2.out).trans rfl
          have k_V_4 := (cell_of_row _ _ 4 _ _ _ HVV_2.out).trans rfl
          have k_V_5 := (cell_of_row _ _ 5 _ _ _ HVV_2.out).trans rfl
          go_wp2_with (go_at_call 81; refine (CC.out _ (tab_on HTAB.out hG HB0_2.out) (Nat.lt_of_lt_of_le hG HB0_2.out.size)).mono ?_; rintro e w3 ⟨rfl, hb3⟩; refine Hid.out ?_)
          refine hid ?_
          clear k_V_0 k_V_1 k_V_2 k_V_3 k_V_4 k_V_5
          have hz3 := hb3.size
          have HB0_3 := hid (HB0_2.out.trans (hb3.mono HB0_2.out.size))
          have HVV_3 := hid ((hb3.block _ (by omega)).trans HVV_2.out)
          clear HB0_2 HVV_2
          clear hb3
          go_wp2
          go_ret
          exact ⟨by rw [HPB.out, HPD.out] <;> rfl, HB0_3.out⟩
        · skip
          go_enter Tryd.func36, Tryd.ntmps36
          go_wp2_with (go_at_call 80; rw [← HW1.out]; refine (CA.out _ (HFa.out.on HB0_1.out) (tab_on HTAB.out hG HB0_1.out) (Nat.lt_of_lt_of_le hG HB0_1.out.size)).mono ?_; rintro e w2 ⟨rfl, hb2⟩; refine Hid.out ?_)
          refine hid ?_
          have hz2 := hb2.size
          have HB0_2 := hid (HB0_1.out.trans (hb2.mono HB0_1.out.size))
          have HVV_2 := hid ((hb2.block _ (by omega)).trans HVV_1.out)
          clear HB0_1 HVV_1
          clear hb2
          have k_V_0 := (cell_of_row _ _ 0 _ _ _ HVV_2.out).trans rfl
          have k_V_1 := (cell_of_row _ _ 1 _ _ _ HVV_2.out).trans rfl
          have k_V_2 := (cell_of_row _ _ 2 _ _ _ HVV_2.out).trans rfl
          have k_V_3 := (cell_of_row _ _ 3 _ _ _ HVV_2.out).trans rfl
          have k_V_4 := (cell_of_row _ _ 4 _ _ _ HVV_2.out).trans rfl
          have k_V_5 := (cell_of_row _ _ 5 _ _ _ HVV_2.out).trans rfl
          go_wp2_with (go_at_call 81; refine (CC.out _ (tab_on HTAB.out hG HB0_2.out) (Nat.lt_of_lt_of_le hG HB0_2.out.size)).mono ?_; rintro e w3 ⟨rfl, hb3⟩; refine Hid.out ?_)
          refine hid ?_
          clear k_V_0 k_V_1 k_V_2 k_V_3 k_V_4 k_V_5
          have hz3 := hb3.size
          have HB0_3 := hid (HB0_2.out.trans (hb3.mono HB0_2.out.size))
          have HVV_3 := hid ((hb3.block _ (by omega)).trans HVV_2.out)
          clear HB0_2 HVV_2
          clear hb3
          go_wp2
          go_ret
          exact ⟨by rw [HPB.out, HPD.out] <;> rfl, HB0_3.out⟩
      · rw [if_neg h12] at HPD
        have e1 : (st == 1) = false := by rw [beq_eq_false_iff_ne]; exact fun h => h12 (Or.inl h)
        have e2 : (st == 2) = false := by rw [beq_eq_false_iff_ne]; exact fun h => h12 (Or.inr h)
        go_enter Tryd.func36, Tryd.ntmps36
        go_wp2_with (go_at_call 80; rw [← HW1.out]; refine (CA.out _ (HFa.out.on HB0_1.out) (tab_on HTAB.out hG HB0_1.out) (Nat.lt_of_lt_of_le hG HB0_1.out.size)).mono ?_; rintro e w2 ⟨rfl, hb2⟩; refine Hid.out ?_)
        refine hid ?_
        have hz2 := hb2.size
        have HB0_2 := hid (HB0_1.out.trans (hb2.mono HB0_1.out.size))
        have HVV_2 := hid ((hb2.block _ (by omega)).trans HVV_1.out)
        clear HB0_1 HVV_1
        clear hb2
        have k_V_0 := (cell_of_row _ _ 0 _ _ _ HVV_2.out).trans rfl
        have k_V_1 := (cell_of_row _ _ 1 _ _ _ HVV_2.out).trans rfl
        have k_V_2 := (cell_of_row _ _ 2 _ _ _ HVV_2.out).trans rfl
        have k_V_3 := (cell_of_row _ _ 3 _ _ _ HVV_2.out).trans rfl
        have k_V_4 := (cell_of_row _ _ 4 _ _ _ HVV_2.out).trans rfl
        have k_V_5 := (cell_of_row _ _ 5 _ _ _ HVV_2.out).trans rfl
        go_wp2
        go_ret
        exact ⟨by rw [HPB.out, HPD.out] <;> rfl, HB0_2.out⟩
end Go.Proofs.YtponjghppnpnhaaDoor
