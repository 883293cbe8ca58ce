/- FnBlended, walked: it answers true. -/
import Derived.Test.YthpnlhbfginkjaaDrawMarks
import Derived.Test.YthpnlhbfginkjaaBlendImpl
import Derived.Test.YthpnlhbfginkjaaBlendSame
namespace Go.Proofs.Ythpnlhbfginkjaa
open Go.RowKit
open Go.Lib (hid)

attribute [local go_sem] run_fadd run_fsub run_fmul run_fquo run_fneg run_store_float fw_cell

theorem blend_lt (es : List MarkD) : ∀ x, blendO es = some x → x < 18446744073709551616 := by
  intro x h
  unfold blendO at h
  by_cases h1 : es.length ≤ 100
  · rw [if_pos h1] at h
    cases ha : (blSum es).1 with
    | none => rw [ha] at h; cases h
    | some A =>
      cases hb : (blSum es).2 with
      | none => rw [ha, hb] at h; cases h
      | some B =>
        rw [ha, hb] at h
        have h : floatBits .quo .f64 A B = some x := h
        have := floatBits_wf h
        simp [Lit.wf] at this
        exact this
  · rw [if_neg h1] at h; cases h

/-- Where the law's own list stands. -/
structure LawMk (w : World) (v : Value) (es : List MarkD) (wr : World) : Prop where
  own : wr.ownsRow w.heap.size 47 2 v es.length (flat encMark es)
  below : Below w.heap.size w wr
  small : ∀ e ∈ es, e.x0 < 18446744073709551616 ∧ e.x1 < 18446744073709551616

/-- A whole row of marks more on a row of the call's own. -/
theorem wp_append_marks {w : World} {ops : Array Oper} {rest : List Oper} {o : Oper} {a : Act} {Q : Exit → Act → World → Prop} (hgd : o.guard = none) (s x : Operand)
    (ho : o.op = .call { callee := .builtin .append, args := #[s, x], argTypes := #[26, 26] }) (base : Nat)
    (v : Value) (hs : a.eval s = v) (hown : w.ownsRow base 47 2 v 0 [])
    (g c base2 : Nat) (es : List MarkD) (hx : a.eval x = .slice (some ⟨g, 0, none⟩) es.length c) (hrow : w.ownsRow base2 47 2 (.slice (some ⟨g, 0, none⟩) es.length c) es.length (flat encMark es)) (hn : es.length ≤ 100000000) (hbase : base ≤ w.heap.size)
    (h : ∀ v' w', w'.ownsRow base 47 2 v' es.length (flat encMark es) → w.grownBy w' v.ownBlock → wpList Try.prog ops Q rest (a.put o.dst v') w') : wpList Try.prog ops Q (o :: rest) a w := by
  obtain ⟨i0, hi0, hz0, hz1, hz2⟩ := info_parts infoMark
  refine wp_append_where_m w hgd s x 26 ho base 47 i0 _ 2 16 Try.underlying26 hi0 hz0 hz1 hz2 rfl (by decide) v 0 [] hs hown ⟨g, 0, none⟩ es.length c (flat encMark es) hx (flat_len encMark_len es) ?_ ?_ ?_ ?_ hbase (fun v' w' h1 h2 _ => h v' w' (by rw [Nat.zero_add, List.nil_append] at h1; exact h1) h2)
  · intro j u hj
    have hjl : j < es.length * 2 := by rw [← flat_len encMark_len es]; exact (List.getElem?_eq_some_iff.1 hj).1
    rw [Addr.add_mid, Nat.zero_add, hrow.cellAt j hjl, hj]
  · intro u hu
    obtain ⟨e, _, he⟩ := List.mem_flatMap.1 hu
    exact encMark_one e u he
  · unfold maxLen; omega
  · omega

theorem LawMk.alloc {w : World} {v : Value} {es : List MarkD} {wr : World} (h : LawMk w v es wr) (o : Obj) : LawMk w v es (wr.alloc o) := ⟨h.own.alloc _, h.below.alloc h.below.size _, h.small⟩

theorem LawMk.put {w : World} {v v' : Value} {es : List MarkD} {y z : Nat} {wr w' : World} (h : LawMk w v es wr) (hy : y < 18446744073709551616) (hz : z < 18446744073709551616)
    (hown : w'.ownsRow w.heap.size 47 2 v' (es.length + 1) (flat encMark (es ++ [MarkD.mk y z]))) (hg : wr.grownBy w' v.ownBlock) : LawMk w v' (es ++ [MarkD.mk y z]) w' := by
  refine ⟨by rw [List.length_append]; exact hown, h.below.grown hg h.below.size (fun j hj => (h.own.lt j hj).1), fun e he => ?_⟩
  rcases List.mem_append.1 he with h1 | h1
  · exact h.small e h1
  · rw [List.mem_singleton.1 h1]
    exact ⟨hy, hz⟩

set_option maxRecDepth 20000 in
set_option maxHeartbeats 8000000 in
theorem law_fnblended (w : World) (q : Option Addr) (n c : Nat) (hq : TBytes w q n) :
    Calls Try.prog 5 #[.slice q n c] w fun e w' => e = .returned (.bool true) ∧ Below w.heap.size w w' := by
  have HQ := hid hq
  clear hq
  by_cases hn : n ≤ 1048576
  · have hd : decide ((n : Int) > 1048576) = false := decide_eq_false (by omega)
    have CB := hid (fun W => big_callsF q n c W)
    rw [hd] at CB
    clear hd
    go_enter Try.func5, Try.ntmps5
    go_wp2_with (go_at_call 21; refine (CB.out _).mono ?_; rintro e wq ⟨rfl, eq⟩; rw [eq]; clear eq wq; refine Hid.out ?_)
    refine hid ?_
    go_wp2_with (go_at_call 22; refine (drawn_blend _ q n c hn HQ.out).mono ?_; rintro e w1 ⟨dv, ds, rfl, hdl, hdr, hdm, hb1⟩; refine Hid.out ?_)
    refine hid ?_
    have HB1 := hid hb1
    have HDR := hid hdr
    clear hb1 CB
    go_wp2_with (go_at_call 11; refine (blend_impl ds hdm (by omega) _ _ HDR.out).mono ?_; unfold FPost; rintro e w2 ⟨y, rfl, hy, hb2⟩; refine Hid.out ?_)
    refine hid ?_
    have HY := hid hy
    have HDR2 := hid (HDR.out.on hb2)
    have HB2 := hid (HB1.out.trans (hb2.mono HB1.out.size))
    clear hy hb2 HB1 HDR hdr hdm
    go_wp2_with (go_at_call 9; refine (blend_spec ds (by omega) _ _ HDR2.out).mono ?_; unfold FPost; rintro e w3 ⟨y3, rfl, hy3, hb3⟩; refine Hid.out ?_)
    refine hid ?_
    have HB3 := hid (HB2.out.trans (hb3.mono HB2.out.size))
    have CS := hid (fun W => same_spec y y3 (told_lt (blend_lt ds) HY.out) (told_lt (blend_lt ds) hy3) W)
    rw [same_told HY.out hy3] at CS
    clear hy3 hb3 HB2 HDR2
    by_cases h2 : n < 2
    · have h2i : (n : Int) < 2 := by omega
      go_wp2_with (go_at_call 23; refine (CS.out _).mono ?_; rintro e wq ⟨rfl, eq⟩; rw [eq]; clear eq wq)
      go_ret
      exact ⟨rfl, HB3.out⟩
    · have h2i : ¬ (n : Int) < 2 := by omega
      obtain ⟨ad, rfl, hal, x0, hx0, hx1, hcx⟩ := HQ.out 0 (by omega)
      have HC0 : Hid (w3.cell? (ad.add 0) = some (.int .u8 x0)) := hid ((HB3.out.cell (by rw [add_block]; exact hal)).trans hcx)
      have hc0 : w3.cell? ad = some (.int .u8 x0) := HC0.out
      obtain ⟨v, hv, HDY⟩ := eighth (x0 - 128) (by omega) (by omega)
      have HVV := hid HDY
      have e1 := fb_some hv
      have e2 := fw_some hv
      have hvl : v < 18446744073709551616 := by rw [← e1 w3]; exact fb_lt _ _ _ _
      go_wp2_with (go_at_call 23; refine (CS.out _).mono ?_; rintro e wq ⟨rfl, eq⟩; rw [eq]; clear eq wq; refine Hid.out ?_)
      refine hid ?_
      have HM0 : Hid (LawMk w3 (.slice (some ⟨w3.heap.size, 0, none⟩) 0 0) [] (w3.alloc (.cells #[] 47))) := hid ⟨World.ownsRow_made w3 #[] 0 (Nat.le_refl _) (Nat.zero_le _) rfl, (Below.refl _ _).alloc (Nat.le_refl _) _, fun e he => by cases he⟩
      have hk0 : -128 ≤ x0 - 128 := by omega
      have hk1 : x0 - 128 ≤ 127 := by omega
      go_upto_region 10 with (fail)
      generalize hkk : x0 - 128 = k at *
      clear hkk
      go_wp2
      go_loopw [6, 7] (fun lv iv wr => ∃ (i : Nat) (es : List MarkD) (W : Int), 1 ≤ i ∧ i ≤ 20 ∧ i ≤ n ∧ iv = .int .i64 ((i : Nat) : Int) ∧ es.length + 1 ≤ i ∧ i ≤ es.length + 1 ∧ Hid (SameL k es W) ∧ Hid (LawMk w3 lv es wr)) (fun _ iv _ => n - (RowKit.intOf iv).toNat)
      case atStart => exact ⟨1, [], 0, Nat.le_refl _, by omega, by omega, rfl, by simp, by simp, hid (SameL.start _), HM0⟩
      case round =>
        obtain ⟨i, es, W, hi1, hi20, hin, rfl, hl1, hl2, HS, HM⟩ := hrel
        have b0 : (0 : Int) ≤ (i : Int) := by omega
        by_cases hc1 : i < n
        · have b1 : (i : Int) < (n : Int) := by omega
          by_cases hc2 : i < 20
          · have b2 : (i : Int) < 20 := by omega
            obtain ⟨ad2, ead, hal2, x, hxa, hxb, hcx2⟩ := HQ.out i hc1
            obtain rfl := Option.some.inj ead
            have kc : wr.cell? (ad.add i) = some (.int .u8 x) := ((HB3.out.trans (HM.out.below.mono HB3.out.size)).cell (by rw [add_block]; exact hal2)).trans hcx2
            clear hcx2 ead
            go_wp2_with (at_builtin; refine wp_append_mark rfl _ _ rfl w3.heap.size _ es rfl (HM.out.own.alloc _) wr.heap.size 1 _ v rfl ((two_cells (heap_alloc_new _ _)).1) ((two_cells (heap_alloc_new _ _)).2.1) (by omega) ?c3 ?_)
            case c3 => have := HM.out.below.size; simp; omega
            intro v6 w6 hown6 hgrow _
            have HM6 := hid ((HM.out.alloc _).put (ofInt_lt _) hvl hown6 hgrow)
            have HS6 := hid (HS.out.put hk0 hk1 (by omega) HVV.out (show 1 ≤ 1 + x % 8 by omega) (show 1 + x % 8 ≤ 8 by omega))
            clear hown6 hgrow
            go_wp2
            go_roundw
            case rel => exact ⟨i + 1, _, _, by omega, by omega, by omega, by go_num, by rw [List.length_append]; simp; omega, by rw [List.length_append]; simp; omega, HS6, HM6⟩
            case measure => simp [RowKit.intOf]; omega
          · have b2 : ¬ (i : Int) < 20 := by omega
            have hne : es ≠ [] := fun h => by rw [h] at hl2; simp at hl2; omega
            have hW : 0 < W := by
              obtain ⟨_, _, _, _, _, h5, _⟩ := HS.out
              have : 0 < es.length := List.length_pos_iff.2 hne
              omega
            obtain ⟨r0, hr0, HR0⟩ := HS.out.blend hk0 hk1 hW
            have HB := hid (hr0 es rfl (by omega))
            have HE := hid (dy_eq HR0 HVV.out)
            have hfv : finB v = true := HVV.out.1
            have hsub : floatBits .sub .f64 v v = some 0 := by rw [sub_self, if_pos hfv]
            have s1 := fb_some hsub
            have s2 := fw_some hsub
            have HOD : Hid (∀ z, finB z = false → blendO (es ++ [MarkD.mk 0 z]) = some r0) := hid (fun z hz => hr0 _ (by rw [blSum_put]; unfold blStep bothF; rw [hz, Bool.and_false, if_neg (by simp)]) (by rw [List.length_append]; simp; omega))
            have HRow := hid (row_of_own encMark_len HM.out.own)
            rcases HM.out.own.2 with ⟨_, hz⟩ | ⟨g, cap, cur, e9, hbg, hgg, _⟩
            · exact absurd (List.eq_nil_of_length_eq_zero hz) hne
            subst e9
            have hgl : g < wr.heap.size := (Array.getElem?_eq_some_iff.1 hgg).1
            clear hgg hr0
            go_wp2_with (at_builtin; refine wp_append_marks rfl _ _ rfl wr.heap.size _ rfl (World.ownsRow_made wr #[] 0 (Nat.le_refl _) (Nat.zero_le _) rfl) g cap w3.heap.size es rfl (HM.out.own.alloc _) (by omega) (by simp) ?_)
            intro v7 w7 hown7 hg7
            have HB7 : Hid (Below wr.heap.size wr w7) := hid (((Below.refl _ _).alloc (Nat.le_refl _) _).grown hg7 (by simp) (fun j hj => Nat.le_of_eq (Option.some.inj hj)))
            have HO7 := hid hown7
            clear hown7 hg7
            go_wp2_with (go_at_call 24; refine (within_impl v v v _).mono ?_; unfold FPost; rintro e w8 ⟨t, rfl, _, hb8⟩; refine Hid.out ?_)
            refine hid ?_
            have HB8 := hid (HB7.out.trans (hb8.mono HB7.out.size))
            have HO8 := hid (own_below HO7.out hb8)
            have hzf := quo_zero t w8
            have hzl := fb_lt .quo t 0 w8
            have HB9 := hid (HB8.out.trans (fw_below .quo t 0 w8 _))
            have HO9 := hid (own_below HO8.out (fw_below .quo t 0 w8 _))
            clear hb8
            go_wp2_with (at_builtin; refine wp_append_mark rfl _ _ rfl wr.heap.size v7 es rfl (HO9.out.alloc _) (fw .quo t 0 w8).heap.size 1 0 _ rfl ((two_cells (heap_alloc_new _ _)).1) ((two_cells (heap_alloc_new _ _)).2.1) (by omega) ?c3 ?_)
            case c3 => have h := HB9.out.size; simp; omega
            intro v10 w10 hown10 hg10 _
            have HB10 : Hid (Below wr.heap.size wr w10) := hid ((HB9.out.alloc HB9.out.size _).grown hg10 (Nat.le_trans HB9.out.size (by simp)) (fun j hj => (HO9.out.lt j hj).1))
            have HRO := hid (row_of_own encMark_len (es := es ++ [MarkD.mk 0 (fb .quo t 0 w8)]) (by rw [List.length_append]; exact hown10))
            have HZ := hid (HOD.out _ hzf)
            clear hown10 hg10 hzf HOD
            generalize fb .quo t 0 w8 = z at *
            have HSM : Hid (∀ e ∈ es ++ [MarkD.mk 0 z], e.x0 < 18446744073709551616 ∧ e.x1 < 18446744073709551616) := hid (fun e he => by
              rcases List.mem_append.1 he with h | h
              · exact HM.out.small e h
              · rw [List.mem_singleton.1 h]
                exact ⟨(by decide : (0 : Nat) < 18446744073709551616), hzl⟩)
            have hlen : (es ++ [MarkD.mk 0 z]).length ≤ 1000000000 := by rw [List.length_append]; simp; omega
            go_wp2_with (go_at_call 11; refine (blend_impl es HM.out.small (by omega) _ _ (HRow.out.on HB10.out)).mono ?_; unfold FPost; rintro e w11 ⟨r1, rfl, hr1, hb11⟩; refine Hid.out ?_)
            refine hid ?_
            rw [HB.out] at hr1
            obtain rfl : r1 = r0 := hr1
            have HRP := hid (HRO.out.on hb11)
            have HB11 := hid (HB10.out.trans (hb11.mono HB10.out.size))
            have heq := HE.out
            clear hb11
            go_wp2_with (go_at_call 11; refine (blend_impl _ HSM.out hlen _ _ HRP.out).mono ?_; unfold FPost; rintro e w12 ⟨r2, rfl, hr2, hb12⟩; refine Hid.out ?_)
            refine hid ?_
            rw [HZ.out] at hr2
            obtain rfl : r2 = r1 := hr2
            have HB12 := hid (HB11.out.trans (hb12.mono HB11.out.size))
            clear hb12
            go_wp2
            go_ret
            exact ⟨rfl, (HB3.out.trans (HM.out.below.mono HB3.out.size)).trans (HB12.out.mono (HB3.out.trans (HM.out.below.mono HB3.out.size)).size)⟩
        · have b1 : ¬ (i : Int) < (n : Int) := by omega
          have hne : es ≠ [] := fun h => by rw [h] at hl2; simp at hl2; omega
          have hW : 0 < W := by
            obtain ⟨_, _, _, _, _, h5, _⟩ := HS.out
            have : 0 < es.length := List.length_pos_iff.2 hne
            omega
          obtain ⟨r0, hr0, HR0⟩ := HS.out.blend hk0 hk1 hW
          have HB := hid (hr0 es rfl (by omega))
          have HE := hid (dy_eq HR0 HVV.out)
          have hfv : finB v = true := HVV.out.1
          have hsub : floatBits .sub .f64 v v = some 0 := by rw [sub_self, if_pos hfv]
          have s1 := fb_some hsub
          have s2 := fw_some hsub
          have HOD : Hid (∀ z, finB z = false → blendO (es ++ [MarkD.mk 0 z]) = some r0) := hid (fun z hz => hr0 _ (by rw [blSum_put]; unfold blStep bothF; rw [hz, Bool.and_false, if_neg (by simp)]) (by rw [List.length_append]; simp; omega))
          have HRow := hid (row_of_own encMark_len HM.out.own)
          rcases HM.out.own.2 with ⟨_, hz⟩ | ⟨g, cap, cur, e9, hbg, hgg, _⟩
          · exact absurd (List.eq_nil_of_length_eq_zero hz) hne
          subst e9
          have hgl : g < wr.heap.size := (Array.getElem?_eq_some_iff.1 hgg).1
          clear hgg hr0
          go_wp2_with (at_builtin; refine wp_append_marks rfl _ _ rfl wr.heap.size _ rfl (World.ownsRow_made wr #[] 0 (Nat.le_refl _) (Nat.zero_le _) rfl) g cap w3.heap.size es rfl (HM.out.own.alloc _) (by omega) (by simp) ?_)
          intro v7 w7 hown7 hg7
          have HB7 : Hid (Below wr.heap.size wr w7) := hid (((Below.refl _ _).alloc (Nat.le_refl _) _).grown hg7 (by simp) (fun j hj => Nat.le_of_eq (Option.some.inj hj)))
          have HO7 := hid hown7
          clear hown7 hg7
          go_wp2_with (go_at_call 24; refine (within_impl v v v _).mono ?_; unfold FPost; rintro e w8 ⟨t, rfl, _, hb8⟩; refine Hid.out ?_)
          refine hid ?_
          have HB8 := hid (HB7.out.trans (hb8.mono HB7.out.size))
          have HO8 := hid (own_below HO7.out hb8)
          have hzf := quo_zero t w8
          have hzl := fb_lt .quo t 0 w8
          have HB9 := hid (HB8.out.trans (fw_below .quo t 0 w8 _))
          have HO9 := hid (own_below HO8.out (fw_below .quo t 0 w8 _))
          clear hb8
          go_wp2_with (at_builtin; refine wp_append_mark rfl _ _ rfl wr.heap.size v7 es rfl (HO9.out.alloc _) (fw .quo t 0 w8).heap.size 1 0 _ rfl ((two_cells (heap_alloc_new _ _)).1) ((two_cells (heap_alloc_new _ _)).2.1) (by omega) ?c3 ?_)
          case c3 => have h := HB9.out.size; simp; omega
          intro v10 w10 hown10 hg10 _
          have HB10 : Hid (Below wr.heap.size wr w10) := hid ((HB9.out.alloc HB9.out.size _).grown hg10 (Nat.le_trans HB9.out.size (by simp)) (fun j hj => (HO9.out.lt j hj).1))
          have HRO := hid (row_of_own encMark_len (es := es ++ [MarkD.mk 0 (fb .quo t 0 w8)]) (by rw [List.length_append]; exact hown10))
          have HZ := hid (HOD.out _ hzf)
          clear hown10 hg10 hzf HOD
          generalize fb .quo t 0 w8 = z at *
          have HSM : Hid (∀ e ∈ es ++ [MarkD.mk 0 z], e.x0 < 18446744073709551616 ∧ e.x1 < 18446744073709551616) := hid (fun e he => by
            rcases List.mem_append.1 he with h | h
            · exact HM.out.small e h
            · rw [List.mem_singleton.1 h]
              exact ⟨(by decide : (0 : Nat) < 18446744073709551616), hzl⟩)
          have hlen : (es ++ [MarkD.mk 0 z]).length ≤ 1000000000 := by rw [List.length_append]; simp; omega
          go_wp2_with (go_at_call 11; refine (blend_impl es HM.out.small (by omega) _ _ (HRow.out.on HB10.out)).mono ?_; unfold FPost; rintro e w11 ⟨r1, rfl, hr1, hb11⟩; refine Hid.out ?_)
          refine hid ?_
          rw [HB.out] at hr1
          obtain rfl : r1 = r0 := hr1
          have HRP := hid (HRO.out.on hb11)
          have HB11 := hid (HB10.out.trans (hb11.mono HB10.out.size))
          have heq := HE.out
          clear hb11
          go_wp2_with (go_at_call 11; refine (blend_impl _ HSM.out hlen _ _ HRP.out).mono ?_; unfold FPost; rintro e w12 ⟨r2, rfl, hr2, hb12⟩; refine Hid.out ?_)
          refine hid ?_
          rw [HZ.out] at hr2
          obtain rfl : r2 = r1 := hr2
          have HB12 := hid (HB11.out.trans (hb12.mono HB11.out.size))
          clear hb12
          go_wp2
          go_ret
          exact ⟨rfl, (HB3.out.trans (HM.out.below.mono HB3.out.size)).trans (HB12.out.mono (HB3.out.trans (HM.out.below.mono HB3.out.size)).size)⟩
  · have hd : decide ((n : Int) > 1048576) = true := decide_eq_true (by omega)
    have CB := hid (fun W => big_callsF q n c W)
    rw [hd] at CB
    clear hd
    go_enter Try.func5, Try.ntmps5
    go_wp2_with (go_at_call 21; refine (CB.out _).mono ?_; rintro e wq ⟨rfl, eq⟩; rw [eq]; clear eq wq)
    go_ret
    exact ⟨rfl, Below.refl _ _⟩
end Go.Proofs.Ythpnlhbfginkjaa
