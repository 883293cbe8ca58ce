/- ImagesOf, the specification's. -/
import Derived.Test.YtgmgffbfpbkfmaaGreatDoorImgPlain
import Derived.Test.YtgmgffbfpbkfmaaGreatDoorLooksBoth
import Derived.Test.YtgmgffbfpbkfmaaGreatDoorFaceKind
import Derived.Test.YtgmgffbfpbkfmaaGreatDoorFlatRow
import Derived.Test.YtgmgffbfpbkfmaaGreatDoorFacePartsS
import Derived.Test.YtgmgffbfpbkfmaaGreatDoorAppendWhere
namespace Go.Proofs.YtgmgffbfpbkfmaaGreatDoor
open Go.RowKit
open Go.Lib (hid)

theorem in_anyI (n a b : Int) (w : World) :
    Calls Tryz.prog 87 #[.int .i64 n, .int .i64 a, .int .i64 b] w fun e w' => e = .returned (.bool (decide (a ≤ n ∧ n ≤ b))) ∧ w' = w := by
  by_cases h0 : a ≤ n
  · by_cases h1 : n ≤ b
    · go_enter Tryz.func87, Tryz.ntmps87
      go_wp2
      go_ret
      exact ⟨by simp [h0, h1], rfl⟩
    · go_enter Tryz.func87, Tryz.ntmps87
      go_wp2
      go_ret
      exact ⟨by simp [h1], rfl⟩
  · go_enter Tryz.func87, Tryz.ntmps87
    go_wp2
    go_ret
    exact ⟨by simp; omega, rfl⟩

set_option maxRecDepth 20000 in
set_option maxHeartbeats 4000000 in
theorem img_spec (es : List EventD) (hs : ∀ e ∈ es, e.x1.size ≤ 1048576) (hn : es.length ≤ 1048576) (a : Value) (w : World) (ha : FRow encEvent 2 w a es) :
    Calls Tryz.prog 31 #[a] w (ImgPost es w) := by
  unfold ImgPost
  have HA := hid ha
  obtain ⟨p, c, rfl, _⟩ := ha
  have HS := hid hs
  clear hs
  obtain ⟨w1, hw1⟩ : ∃ W, W = w.alloc (.cells #[] 66) := ⟨_, rfl⟩
  have HB1 : Hid (Below w.heap.size w w1) := hid (by rw [hw1]; exact (Below.refl _ _).alloc (Nat.le_refl _) _)
  have HN1 : Hid (w1.ownsRow w.heap.size 66 2 (.slice (some ⟨w.heap.size, 0, none⟩) 0 0) 0 []) := hid (by rw [hw1]; exact none_images w)
  have hz1 : w1.heap.size = w.heap.size + 1 := by rw [hw1]; simp
  have HW1 := hid hw1
  have HZ1 := hid hz1
  clear hw1 hz1
  by_cases h60 : es.length ≤ 60
  · have HE0 : Hid (imgGo (es.drop 0) 0 [] = imgOut es) := hid (by rw [List.drop_zero]; unfold imgOut; rw [if_pos h60])
    go_enter Tryz.func31, Tryz.ntmps31
    go_wp2
    go_loopw [6, 7] (fun out iv wr => ∃ i : Nat, ∃ im : List ImageD, i ≤ es.length ∧ im.length ≤ i ∧ iv = .int .i64 i ∧ Below w1.heap.size w1 wr ∧ Hid (wr.ownsRow w1.heap.size 66 2 out im.length (flat encImage im)) ∧ Hid (imgGo (es.drop i) i im = imgOut es)) (fun _ iv _ => es.length - (RowKit.intOf iv).toNat)
    case atStart => exact ⟨0, [], Nat.zero_le _, Nat.zero_le _, rfl, by rw [← HW1.out]; exact (Below.refl _ _).alloc (Nat.le_refl _) _, hid (by rw [← HW1.out, ← HZ1.out]; exact none_images w1), HE0⟩
    case round =>
      obtain ⟨i, im, hi, him, rfl, hbel, HO, HR⟩ := hrel
      have HB := hid hbel
      have HBW : Hid (Below w.heap.size w wr) := hid (HB1.out.trans (hbel.mono HB1.out.size))
      have HNW := hid (own_below HN1.out hbel)
      obtain ⟨m, hm⟩ : ∃ m, m = im.length := ⟨_, rfl⟩
      have HM := hid hm
      rw [← hm] at him HO
      have hsl : ∃ ip ic, u6 = Value.slice ip m ic := by
        obtain ⟨ip, ic, h, _⟩ := row_of_own encImage_len (by rw [HM.out] at HO; exact HO.out)
        exact ⟨ip, ic, by rw [h, HM.out]⟩
      obtain ⟨ip, ic, rfl⟩ := hsl
      clear hm
      by_cases hlt : i < es.length
      · have hne : es ≠ [] := fun h => by rw [h] at hlt; cases hlt
        obtain ⟨p', c', hv, _, hp⟩ := HA.out
        obtain ⟨rfl, rfl⟩ : p = p' ∧ c = c' := by injection hv with h1 h2 h3; exact ⟨h1, by omega⟩
        obtain ⟨g, o, rfl, hg, hc⟩ := hp hne
        clear hv hp
        have b1 : (0 : Int) ≤ (i : Int) := by omega
        have b2 : (i : Int) < (es.length : Int) := by omega
        have hgr : g < wr.heap.size := Nat.lt_of_lt_of_le hg HBW.out.size
        have K0 := hid (fun (W : World) (hW : Below wr.heap.size wr W) => ((hW.cell (p := ⟨g, o + i * 2, none⟩) hgr).trans ((HBW.out.cell (p := ⟨g, o + i * 2, none⟩) hg).trans (hc i hlt 0 (by decide))) : W.cell? ⟨g, o + i * 2, none⟩ = some (.int .i64 es[i].x0)))
        have K1 := hid (fun (W : World) (hW : Below wr.heap.size wr W) => ((hW.cell (p := ⟨g, o + i * 2 + 1, none⟩) hgr).trans ((HBW.out.cell (p := ⟨g, o + i * 2 + 1, none⟩) hg).trans (hc i hlt 1 (by decide))) : W.cell? ⟨g, o + i * 2 + 1, none⟩ = some (.string es[i].x1)))
        clear hc
        have HSY := hid (HS.out es[i] (List.getElem_mem hlt))
        have GB := hid (fun h => imgGo_bad (es := es) (i := i) (im := im) hlt h)
        have GK := hid (fun h hk => imgGo_kind (es := es) (i := i) (im := im) hlt h hk)
        have GN := hid (fun h hk hl => imgGo_no (es := es) (i := i) (im := im) hlt h hk hl)
        have GL := hid (fun l v b h hk hl hn => imgGo_layer (es := es) (i := i) (im := im) (l := l) (v := v) (b := b) hlt h hk hl hn)
        have GR := hid (fun v b h hk hl hn => imgGo_reg (es := es) (i := i) (im := im) (v := v) (b := b) hlt h hk hl hn)
        have GM := hid (fun v b h hk hl hn => imgGo_more (es := es) (i := i) (im := im) (v := v) (b := b) hlt h hk hl hn)
        generalize es[i].x0 = x at *
        generalize es[i].x1 = y at *
        rw [← HM.out] at GL GR GM
        have k0 := K0.out wr (Below.refl _ _)
        have k1 := K1.out wr (Below.refl _ _)
        have CR := hid (fun W => in_anyI x 0 7 W)
        by_cases hx : 0 ≤ x ∧ x ≤ 7
        · rw [decide_eq_true hx] at CR
          have HX := hid hx
          clear hx
          have CK := hid (fun W => kind_spec y W HSY.out)
          by_cases hk : (nodeOf y).1 = 0
          · have HZ : Hid (imgOut es = ([], 2, (i : Int))) := hid (HR.out.symm.trans (GK.out HX.out hk))
            rw [hk] at CK
            clear hk hbel
            go_wp2_with (first | (go_at_call 87; refine (CR.out _).mono ?_; rintro e w2 ⟨rfl, e2⟩; rw [e2]; clear e2 w2) | (go_at_call 88; refine (CK.out _).mono ?_; rintro e w3 ⟨rfl, hb3⟩; refine Hid.out ?_))
            refine hid ?_
            go_wp2
            go_ret3
            exact ⟨_, by rw [HZ.out]; rfl, HBW.out.trans (hb3.mono HBW.out.size), by rw [HZ.out]; exact own_below HNW.out hb3⟩
          · have HK := hid hk
            have CL := hid (fun W => looks_spec y HSY.out W)
            unfold LooksPost at CL
            have hkb : (((nodeOf y).1 : Int) == 0) = false := by rw [beq_eq_false_iff_ne]; omega
            have hkk : ¬ ((nodeOf y).1 : Int) = 0 := by omega
            generalize (nodeOf y).1 = kk at *
            generalize looksO y = r at *
            obtain ⟨rb, rl, rn, rv⟩ := r
            dsimp only at CL
            clear hk hbel
            go_wp2_with (first | (go_at_call 87; refine (CR.out _).mono ?_; rintro e w2 ⟨rfl, e2⟩; rw [e2]; clear e2 w2) | (go_at_call 88; refine (CK.out _).mono ?_; rintro e w3 ⟨rfl, hb3⟩; refine Hid.out ?_))
            refine hid ?_
            have HB3 := hid hb3
            have HBW3 := hid (HBW.out.trans (hb3.mono HBW.out.size))
            have HB13 := hid (HB.out.trans (hb3.mono HB.out.size))
            have HN3 := hid (own_below HNW.out hb3)
            have HO3 := hid (own_below HO.out hb3)
            have k2 := K1.out w3 hb3
            clear k0 k1 hb3
            go_wp2_with (go_at_call 91; refine (CL.out _).mono ?_; rintro e w4 ⟨rfl, hb4⟩; refine Hid.out ?_)
            refine hid ?_
            have HB4 := hid (HB3.out.trans (hb4.mono HB3.out.size))
            have HBW4 := hid (HBW3.out.trans (hb4.mono HBW3.out.size))
            have HB14 := hid (HB13.out.trans (hb4.mono HB13.out.size))
            have HN4 := hid (own_below HN3.out hb4)
            have HO4 := hid (own_below HO3.out hb4)
            clear k2 hb4
            obtain ⟨w5, hw5⟩ : ∃ W, W = w4.alloc (.cells #[.string (bytesOf rn), .int .i64 rv] 66) := ⟨_, rfl⟩
            have hb5 : Below w4.heap.size w4 w5 := by rw [hw5]; exact (Below.refl _ _).alloc (Nat.le_refl _) _
            have HI5 : Hid (w5.heap[w4.heap.size]? = some (.cells #[.string (bytesOf rn), .int .i64 rv] 66)) := hid (by rw [hw5]; exact heap_alloc_new _ _)
            have HB5 := hid (HB4.out.trans (hb5.mono HB4.out.size))
            have HBW5 := hid (HBW4.out.trans (hb5.mono HBW4.out.size))
            have HB15 := hid (HB14.out.trans (hb5.mono HB14.out.size))
            have HN5 := hid (own_below HN4.out hb5)
            have HO5 := hid (own_below HO4.out hb5)
            have hz5 : w5.heap.size = w4.heap.size + 1 := by rw [hw5]; simp
            have HW5 := hid hw5
            have HZ5 := hid hz5
            clear hw5 hb5 hz5
            cases rb with
            | false =>
              have HE := hid ((GN.out HX.out HK.out rfl).symm.trans HR.out)
              go_wp2
              go_roundw
              case rel => exact ⟨i + 1, im, by omega, by rw [← HM.out]; omega, by go_num, by rw [← HW5.out]; exact HB15.out, hid (by rw [← HW5.out, ← HM.out]; exact HO5.out), HE⟩
              case measure => simp [RowKit.intOf]; omega
            | true =>
              by_cases hl : rl = (m : Int)
              · subst hl
                have q0 : w5.cell? ⟨g, o + i * 2, none⟩ = some (.int .i64 x) := K0.out w5 HB5.out
                have q1 : w5.cell? ⟨w4.heap.size, 0, none⟩ = some (.string (bytesOf rn)) := (cell_of_row _ _ 0 _ _ _ HI5.out).trans rfl
                have q2 : w5.cell? ⟨w4.heap.size, 1, none⟩ = some (.int .i64 rv) := (cell_of_row _ _ 1 _ _ _ HI5.out).trans rfl
                rw [HW5.out] at q0 q1 q2
                by_cases hr : x = ((m % 8 : Nat) : Int)
                · have HE := hid ((GM.out _ _ HX.out HK.out rfl hr).symm.trans HR.out)
                  have hr2 : x = (m : Int) % 8 := by omega
                  clear hr
                  have hr3 : (x != (m : Int) % 8) = false := by rw [hr2]; simp
                  go_wp2_with (at_builtin; rw [← HW5.out]; refine wp_append_image rfl _ _ rfl w1.heap.size _ im ?c1 (by rw [← HM.out]; exact HO5.out.alloc _) w5.heap.size 1 (bytesOf rn) rv ?c1b ?c2 ?c3 ?c4 ?c5 ?_)
                  case c1 => simp [go_sem]
                  case c1b => simp [go_sem]; exact HZ5.out.symm
                  case c2 => simp [go_sem]
                  case c3 => simp [go_sem]
                  case c4 => rw [← HM.out]; omega
                  case c5 => have := HB15.out.size; simp; omega
                  intro v6 w6 hown6 hgrow _
                  have HB6 : Hid (Below w1.heap.size w1 w6) := hid ((HB15.out.alloc HB15.out.size _).grown hgrow (by have := HB15.out.size; simp; omega) (fun k hk => (HO5.out.lt k hk).1))
                  have HO6 : Hid (w6.ownsRow w1.heap.size 66 2 v6 (im ++ [ImageD.mk (bytesOf rn) rv]).length (flat encImage (im ++ [ImageD.mk (bytesOf rn) rv]))) := hid (by rw [List.length_append]; exact hown6)
                  clear hown6 hgrow
                  go_wp2
                  go_roundw
                  case rel => exact ⟨i + 1, _, by omega, by rw [List.length_append, ← HM.out]; simp; omega, by go_num, HB6.out, HO6, HE⟩
                  case measure => simp [RowKit.intOf]; omega
                · have HZ : Hid (imgOut es = ([], 4, (i : Int))) := hid (HR.out.symm.trans (GR.out _ _ HX.out HK.out rfl hr))
                  have hr2 : ¬ x = (m : Int) % 8 := by omega
                  have hr3 : (x != (m : Int) % 8) = true := by simp [hr2]
                  clear hr
                  go_wp2
                  go_ret3
                  exact ⟨_, by rw [HZ.out]; rfl, by rw [← HW5.out]; exact HBW5.out, by rw [HZ.out, ← HW5.out]; exact HN5.out⟩
              · have HZ : Hid (imgOut es = ([], 3, (i : Int))) := hid (HR.out.symm.trans (GL.out _ _ _ HX.out HK.out rfl hl))
                have hlb : (rl != (m : Int)) = true := by simp [hl]
                go_wp2
                go_ret3
                exact ⟨_, by rw [HZ.out]; rfl, by rw [← HW5.out]; exact HBW5.out, by rw [HZ.out, ← HW5.out]; exact HN5.out⟩
        · rw [decide_eq_false hx] at CR
          have HZ : Hid (imgOut es = ([], 2, (i : Int))) := hid (HR.out.symm.trans (GB.out hx))
          clear hx hbel
          go_wp2_with (go_at_call 87; refine (CR.out _).mono ?_; rintro e w2 ⟨rfl, e2⟩; rw [e2]; clear e2 w2)
          go_ret3
          exact ⟨_, by rw [HZ.out]; rfl, HBW.out, by rw [HZ.out]; exact HNW.out⟩
      · have hie : i = es.length := by omega
        subst hie
        have HZ : Hid (imgOut es = (im, 0, -1)) := hid (HR.out.symm.trans imgGo_end)
        clear hbel
        go_wp2
        go_ret3
        exact ⟨_, by rw [HZ.out]; rfl, HBW.out, by rw [HZ.out]; exact own_base (by rw [← HM.out]; exact HO.out) HB1.out.size⟩
  · have HZ : Hid (imgOut es = ([], 1, -1)) := hid (by unfold imgOut; rw [if_neg h60])
    rw [HZ.out]
    go_enter Tryz.func31, Tryz.ntmps31
    go_wp2
    go_ret3
    exact ⟨_, rfl, by rw [← HW1.out]; exact HB1.out, by rw [← HW1.out]; exact HN1.out⟩
end Go.Proofs.YtgmgffbfpbkfmaaGreatDoor
