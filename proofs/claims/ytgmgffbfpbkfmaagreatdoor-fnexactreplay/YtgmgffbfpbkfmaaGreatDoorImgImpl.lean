/- ImagesOf, the program's. -/
import Derived.Test.YtgmgffbfpbkfmaaGreatDoorImgRepl
import Derived.Test.YtgmgffbfpbkfmaaGreatDoorFlatRow
namespace Go.Proofs.YtgmgffbfpbkfmaaGreatDoor
open Go.RowKit
open Go.Lib (hid)

set_option maxRecDepth 20000 in
set_option maxHeartbeats 4000000 in
theorem img_impl (es : List EventD) (hn : es.length ≤ 1048576) (a : Value) (w : World) (ha : FRow encEvent 2 w a es) (hT : Tab w) (hG : 0 < w.heap.size) (hL : Num.Laid w) :
    Calls Tryz.prog 33 #[a] w (ImgPost es w) := by
  unfold ImgPost
  have HA := hid ha
  have HT := hid hT
  have HLD := hid hL
  obtain ⟨p, c, rfl, _⟩ := ha
  clear hT hL
  by_cases h60 : es.length ≤ 60
  · have HE0 : Hid (imgGo (es.drop 0) 0 [] = imgOut es) := hid (by rw [List.drop_zero]; unfold imgOut; rw [if_pos h60])
    go_enter Tryz.func33, Tryz.ntmps33
    go_wp2
    go_loopw [5, 15] (fun out iv wr => ∃ i : Nat, ∃ im : List ImageD, i ≤ es.length ∧ im.length ≤ i ∧ iv = .int .i64 i ∧ Below w.heap.size w wr ∧ Hid (wr.ownsRow w.heap.size 66 2 out im.length (flat encImage im)) ∧ Hid (imgGo (es.drop i) i im = imgOut es)) (fun _ iv _ => es.length - (RowKit.intOf iv).toNat)
    case atStart => exact ⟨0, [], Nat.zero_le _, Nat.zero_le _, rfl, Below.refl _ _, hid (nil_images _ _), HE0⟩
    case round =>
      obtain ⟨i, im, hi, him, rfl, hbel, HO, HR⟩ := hrel
      have HBW := hid hbel
      have hsl : ∃ ip ic, u5 = Value.slice ip im.length ic := by
        obtain ⟨ip, ic, h, _⟩ := row_of_own encImage_len HO.out
        exact ⟨ip, ic, h⟩
      obtain ⟨ip, ic, rfl⟩ := hsl
      by_cases hlt : i < es.length
      · have hne : es ≠ [] := fun h => by rw [h] at hlt; cases hlt
        obtain ⟨p', c', hv, _, hp⟩ := HA.out
        obtain ⟨rfl, rfl⟩ : p = p' ∧ c = c' := by injection hv with h1 h2 h3; exact ⟨h1, by omega⟩
        obtain ⟨g, o, rfl, hg, hc⟩ := hp hne
        clear hv hp
        have b1 : (0 : Int) ≤ (i : Int) := by omega
        have b2 : (i : Int) < (es.length : Int) := by omega
        have k0 : wr.cell? ⟨g, o + i * 2, none⟩ = some (.int .i64 es[i].x0) := (HBW.out.cell (p := ⟨g, o + i * 2, none⟩) hg).trans (hc i hlt 0 (by decide))
        have k1 : wr.cell? ⟨g, o + i * 2 + 1, none⟩ = some (.string es[i].x1) := (HBW.out.cell (p := ⟨g, o + i * 2 + 1, none⟩) hg).trans (hc i hlt 1 (by decide))
        clear hc
        have GB := hid (fun h => imgGo_bad (es := es) (i := i) (im := im) hlt h)
        have GK := hid (fun h hk => imgGo_kind (es := es) (i := i) (im := im) hlt h hk)
        have GN := hid (fun h hk hl => imgGo_no (es := es) (i := i) (im := im) hlt h hk hl)
        have GL := hid (fun l v b h hk hl hn => imgGo_layer (es := es) (i := i) (im := im) (l := l) (v := v) (b := b) hlt h hk hl hn)
        have GR := hid (fun v b h hk hl hn => imgGo_reg (es := es) (i := i) (im := im) (v := v) (b := b) hlt h hk hl hn)
        have GM := hid (fun v b h hk hl hn => imgGo_more (es := es) (i := i) (im := im) (v := v) (b := b) hlt h hk hl hn)
        generalize es[i].x0 = x at *
        generalize es[i].x1 = y at *
        have CA := hid (fun W hT hG hL => lookAt_impl x y W hT hG hL)
        unfold lookV at CA
        obtain ⟨W2, hW2⟩ : ∃ W2, W2 = wr.alloc (.cells #[.int .i64 x, .string y] 131) := ⟨_, rfl⟩
        have HB2 : Hid (Below w.heap.size w W2) := hid (by rw [hW2]; exact HBW.out.alloc HBW.out.size _)
        have HO2 : Hid (W2.ownsRow w.heap.size 66 2 (.slice ip im.length ic) im.length (flat encImage im)) := hid (by rw [hW2]; exact HO.out.alloc _)
        have l0 : W2.cell? ⟨wr.heap.size, 0, none⟩ = some (.int .i64 x) := by rw [hW2]; exact (cell_of_row _ _ 0 _ _ _ (heap_alloc_new _ _)).trans rfl
        have l1 : W2.cell? ⟨wr.heap.size, 1, none⟩ = some (.string y) := by rw [hW2]; exact (cell_of_row _ _ 1 _ _ _ (heap_alloc_new _ _)).trans rfl
        have HW2 := hid hW2
        clear hW2 hbel
        have HBAD : ¬ ((0 ≤ x ∧ x ≤ 7) ∧ (nodeOf y).1 ≠ 0) → imgOut es = ([], 2, (i : Int)) := fun h => by
          by_cases hx : 0 ≤ x ∧ x ≤ 7
          · have hk : (nodeOf y).1 = 0 := by
              by_cases hk : (nodeOf y).1 = 0
              · exact hk
              · exact absurd ⟨hx, hk⟩ h
            exact HR.out.symm.trans (GK.out hx hk)
          · exact HR.out.symm.trans (GB.out hx)
        have HBAD := hid HBAD
        have CBE := hid (fun h p m c W hT hG => repl_bad_ev x y h p m c W hT hG)
        have CBL := hid (fun l n v h p m c W hT hG => repl_bad_ld x y l n v h p m c W hT hG)
        have CEV := hid (fun h p m c W hT hG => repl_ev x y h p m c W hT hG)
        have CLD := hid (fun l n v h W hT hG hb hO => repl_ld x y l n v h w.heap.size im (by omega) ip ic W hT hG hb hO)
        have hm60 : im.length ≤ 60 := by omega
        obtain ⟨rb, rl, rn, rv, hr⟩ : ∃ rb rl rn rv, looksO y = (rb, rl, rn, rv) := ⟨_, _, _, _, rfl⟩
        rw [hr] at CA GN
        have HLK := hid hr
        clear hr
        dsimp only at CA GN
        cases rb with
        | false =>
          rw [if_neg (by decide)] at CA
          go_wp2_with (go_at_call 94; rw [← HW2.out]; refine (CA.out _ (tab_on HT.out hG HB2.out) (Nat.lt_of_lt_of_le hG HB2.out.size) (HLD.out.on HB2.out)).mono ?_; rintro e w3 ⟨rfl, hb3⟩; refine Hid.out ?_)
          refine hid ?_
          have HB3 := hid (HB2.out.trans (hb3.mono HB2.out.size))
          have HO3 := hid (own_below HO2.out hb3)
          clear hb3 k0 k1 l0 l1
          by_cases hR : (0 ≤ x ∧ x ≤ 7) ∧ (nodeOf y).1 ≠ 0
          · have HE := hid ((GN.out hR.1 hR.2 trivial).symm.trans HR.out)
            have HRR := hid hR
            clear hR
            go_wp2_with (go_at_call 93; refine (CEV.out HRR.out _ _ _ _ (tab_on HT.out hG HB3.out) (Nat.lt_of_lt_of_le hG HB3.out.size)).mono ?_; rintro e w4 ⟨rfl, hb4⟩; refine Hid.out ?_)
            refine hid ?_
            have HB4 := hid (HB3.out.trans (hb4.mono HB3.out.size))
            have HO4 := hid (own_below HO3.out hb4)
            clear hb4
            go_wp2
            go_roundw
            case rel => exact ⟨i + 1, im, by omega, by omega, by go_num, HB4.out, HO4, HE⟩
            case measure => simp [RowKit.intOf]; omega
          · have HZ := hid (HBAD.out hR)
            have HRR := hid hR
            clear hR
            go_wp2_with (go_at_call 93; refine (CBE.out HRR.out _ _ _ _ (tab_on HT.out hG HB3.out) (Nat.lt_of_lt_of_le hG HB3.out.size)).mono ?_; rintro e w4 ⟨rfl, hb4⟩; refine Hid.out ?_)
            refine hid ?_
            have HB4 := hid (HB3.out.trans (hb4.mono HB3.out.size))
            clear hb4
            go_wp2
            go_ret3
            exact ⟨_, by rw [HZ.out]; rfl, HB4.out, by rw [HZ.out]; exact nil_images _ _⟩
        | true =>
          rw [if_pos rfl] at CA
          go_wp2_with (go_at_call 94; rw [← HW2.out]; refine (CA.out _ (tab_on HT.out hG HB2.out) (Nat.lt_of_lt_of_le hG HB2.out.size) (HLD.out.on HB2.out)).mono ?_; rintro e w3 ⟨rfl, hb3⟩; refine Hid.out ?_)
          refine hid ?_
          have HB3 := hid (HB2.out.trans (hb3.mono HB2.out.size))
          have HO3 := hid (own_below HO2.out hb3)
          clear hb3 k0 k1 l0 l1
          by_cases hR : (0 ≤ x ∧ x ≤ 7) ∧ (nodeOf y).1 ≠ 0
          · have HRR := hid hR
            clear hR
            have CL2 := hid (fun W hT hG hb hO => CLD.out rl (bytesOf rn) rv HRR.out W hT hG hb hO)
            by_cases hl : rl = (im.length : Int)
            · subst hl
              by_cases hx : x = ((im.length % 8 : Nat) : Int)
              · have e1 : loadO x (im.length : Int) (bytesOf rn) rv im.length = (⟨bytesOf rn, rv⟩, 0) := by unfold loadO; rw [if_pos rfl, if_pos hx]
                have HE := hid ((GM.out rv rn HRR.out.1 HRR.out.2 HLK.out hx).symm.trans HR.out)
                rw [e1] at CL2
                clear hx e1
                go_wp2_with (go_at_call 93; refine (CL2.out _ (tab_on HT.out hG HB3.out) (Nat.lt_of_lt_of_le hG HB3.out.size) HB3.out.size HO3.out).mono ?_; rintro e w4 ⟨sv, rfl, hb4, ho4⟩; refine Hid.out ?_)
                refine hid ?_
                have HB4 := hid (HB3.out.trans hb4)
                have HO4 := hid ho4
                clear hb4 ho4
                go_wp2
                go_roundw
                case rel => exact ⟨i + 1, _, by omega, by rw [List.length_append]; simp; omega, by go_num, HB4.out, HO4, HE⟩
                case measure => simp [RowKit.intOf]; omega
              · have e1 : loadO x (im.length : Int) (bytesOf rn) rv im.length = (⟨⟨#[]⟩, 0⟩, 4) := by unfold loadO; rw [if_pos rfl, if_neg hx]
                have HZ : Hid (imgOut es = ([], 4, (i : Int))) := hid (HR.out.symm.trans (GR.out rv rn HRR.out.1 HRR.out.2 HLK.out hx))
                rw [e1] at CL2
                clear hx e1
                go_wp2_with (go_at_call 93; refine (CL2.out _ (tab_on HT.out hG HB3.out) (Nat.lt_of_lt_of_le hG HB3.out.size) HB3.out.size HO3.out).mono ?_; rintro e w4 ⟨sv, rfl, hb4, ho4⟩; refine Hid.out ?_)
                refine hid ?_
                have HB4 := hid (HB3.out.trans hb4)
                have HO4 := hid ho4
                clear hb4 ho4
                go_wp2
                go_ret3
                exact ⟨_, by rw [HZ.out]; rfl, HB4.out, by rw [HZ.out]; exact nil_images _ _⟩
            · have e1 : loadO x rl (bytesOf rn) rv im.length = (⟨⟨#[]⟩, 0⟩, 3) := by unfold loadO; rw [if_neg hl]
              have HZ : Hid (imgOut es = ([], 3, (i : Int))) := hid (HR.out.symm.trans (GL.out rl rv rn HRR.out.1 HRR.out.2 HLK.out hl))
              rw [e1] at CL2
              clear hl e1
              go_wp2_with (go_at_call 93; refine (CL2.out _ (tab_on HT.out hG HB3.out) (Nat.lt_of_lt_of_le hG HB3.out.size) HB3.out.size HO3.out).mono ?_; rintro e w4 ⟨sv, rfl, hb4, ho4⟩; refine Hid.out ?_)
              refine hid ?_
              have HB4 := hid (HB3.out.trans hb4)
              have HO4 := hid ho4
              clear hb4 ho4
              go_wp2
              go_ret3
              exact ⟨_, by rw [HZ.out]; rfl, HB4.out, by rw [HZ.out]; exact nil_images _ _⟩
          · have HZ := hid (HBAD.out hR)
            have HRR := hid hR
            clear hR
            go_wp2_with (go_at_call 93; refine (CBL.out _ _ _ HRR.out _ _ _ _ (tab_on HT.out hG HB3.out) (Nat.lt_of_lt_of_le hG HB3.out.size)).mono ?_; rintro e w4 ⟨rfl, hb4⟩; refine Hid.out ?_)
            refine hid ?_
            have HB4 := hid (HB3.out.trans (hb4.mono HB3.out.size))
            clear hb4
            go_wp2
            go_ret3
            exact ⟨_, by rw [HZ.out]; rfl, HB4.out, by rw [HZ.out]; exact nil_images _ _⟩
      · have hie : i = es.length := by omega
        subst hie
        have HZ : Hid (imgOut es = (im, 0, -1)) := hid (HR.out.symm.trans imgGo_end)
        clear hbel
        go_wp2
        go_ret3
        exact ⟨_, by rw [HZ.out]; rfl, HBW.out, by rw [HZ.out]; exact HO.out⟩
  · have HZ : Hid (imgOut es = ([], 1, -1)) := hid (by unfold imgOut; rw [if_neg h60])
    rw [HZ.out]
    go_enter Tryz.func33, Tryz.ntmps33
    go_wp2
    go_ret3
    exact ⟨_, rfl, Below.refl _ _, nil_images _ _⟩
end Go.Proofs.YtgmgffbfpbkfmaaGreatDoor
