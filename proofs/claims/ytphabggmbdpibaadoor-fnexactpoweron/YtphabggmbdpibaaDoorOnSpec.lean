/- PowerOn, the specification's. -/
import Derived.Test.YtphabggmbdpibaaDoorOnImpl
namespace Go.Proofs.YtphabggmbdpibaaDoor
open Go.RowKit
open Go.Lib (hid)

theorem one_w_yes {W : List Int} {x c : Int} (h : StoodOne W x c) (hx : 0 ≤ x) (hp : x + 1 ≤ 1000000000 ∧ c ≠ 1000000000) : (writesOut 1 W [x + 1]).2.2 = true ∧ (writesOut 1 W [x + 1]).1 = 4 := by
  unfold writesOut
  rw [one_writes h hx, decide_eq_true hp]
  exact ⟨rfl, rfl⟩

theorem one_w_no {W : List Int} {x c : Int} (h : StoodOne W x c) (hx : 0 ≤ x) (hp : ¬ (x + 1 ≤ 1000000000 ∧ c ≠ 1000000000)) : (writesOut 1 W [x + 1]).2.2 = false := by
  unfold writesOut
  rw [one_writes h hx, decide_eq_false hp]
  rfl

theorem put_apply {W : List Int} {x cut : Int} (h : (writesOut 1 W [x + 1]).2.2 = true) : putOut 1 W [x + 1] cut = applyOut 1 W (writesOut 1 W [x + 1]).1 (writesOut 1 W [x + 1]).2.1 cut := by
  unfold putOut
  rw [if_pos h]

set_option maxRecDepth 20000 in
set_option maxHeartbeats 4000000 in
theorem on_spec (key : ByteArray) (s : Int) (l : List Int) (hl : l.length ≤ 1048576) (up : Bool) (ps : List (List UInt8)) (hs : ∀ p ∈ ps, p.length ≤ 1048576) (hn : ps.length ≤ 1048576) (cut : Int) (hcn : cut ≤ 9223372036854775807) (a1 a2 : Value) (w : World) (h1 : RowIn w a1 l) (h2 : TextsAt w a2 ps) :
    Calls Tryd.prog 11 #[.agg #[.string key, .int .i64 s, a1, .bool up, a2], .int .i64 cut] w (OnPost key s l up ps cut w) := by
  unfold OnPost
  have H1 := hid h1
  have CB := hid (fun W (hb : Below w.heap.size w W) => boots_spec key s l hl up ps hs hn a1 a2 W (h1.on hb) (h2.on hb))
  unfold bootsOut at CB
  obtain ⟨p1, c1, rfl, _, _⟩ := h1
  obtain ⟨p2, c2, rfl, _⟩ := h2
  obtain ⟨W0, hW0⟩ : ∃ W0, W0 = (w.alloc (.cells #[.string key, .int .i64 s, .slice p1 l.length c1, .bool up, .slice p2 ps.length c2] 31)).alloc (.cells #[.string ⟨#[]⟩, .int .i64 0, .slice none 0 0, .bool false, .slice none 0 0] 31) := ⟨_, rfl⟩
  have HB0 : Hid (Below w.heap.size w W0) := hid (by rw [hW0]; exact ((Below.refl _ _).alloc (Nat.le_refl _) _).alloc (by simp) _)
  have HV0 : Hid (W0.heap[w.heap.size]? = some (.cells #[.string key, .int .i64 s, .slice p1 l.length c1, .bool up, .slice p2 ps.length c2] 31)) := hid (by rw [hW0]; exact heap_two_old _ _)
  have HZ0 : Hid (W0.heap[w.heap.size + 1]? = some (.cells #[.string ⟨#[]⟩, .int .i64 0, .slice none 0 0, .bool false, .slice none 0 0] 31)) := hid (by rw [hW0]; exact heap_two_new _ _)
  have hz0 : w.heap.size + 1 < W0.heap.size := by rw [hW0]; simp
  obtain ⟨k0, k1, k2, k3, k4⟩ := five_cells HV0.out
  have HW0 := hid hW0
  clear hW0
  cases hrb : rootB key.data.toList s l up ps with
  | false =>
    have HOB : Hid (onB key.data.toList s l up ps cut = false) := hid (by unfold onB; rw [hrb, Bool.false_and])
    have HO : Hid (onOut key s l up ps cut = (⟨#[]⟩, 0, [], false, [])) := hid (by unfold onOut; rw [HOB.out, if_neg (by decide)])
    rw [hrb, if_neg (by decide)] at CB
    clear hrb
    go_enter Tryd.func11, Tryd.ntmps11
    go_wp2_with (go_at_call 49; rw [← HW0.out]; refine (CB.out _ HB0.out).mono ?_; rintro e w1 ⟨rfl, hb1⟩; refine Hid.out ?_)
    refine hid ?_
    have HB1 := hid (HB0.out.trans (hb1.mono HB0.out.size))
    have HZ1 := hid ((hb1.block _ hz0).trans HZ0.out)
    have HV1 := hid ((hb1.block w.heap.size (by omega)).trans HV0.out)
    have hz1 := hb1.size
    clear hb1 k0 k1 k2 k3 k4
    clear HV1
    obtain ⟨z0, z1, z2, z3, z4⟩ := five_cells HZ1.out
    have f0 := five_thaw HZ1.out 0
    have f1 := five_thaw HZ1.out 1
    have f2 := five_thaw HZ1.out 2
    have f3 := five_thaw HZ1.out 3
    have f4 := five_thaw HZ1.out 4
    go_wp2
    refine bodyPost_ret (v := .tuple #[.agg #[.string ⟨#[]⟩, .int .i64 0, .slice none 0 0, .bool false, .slice none 0 0], .bool false]) (by simp [results, Tryd.results11, go_sem, z0, z1, z2, z3, z4]) rfl ⟨_, .slice none 0 0, by rw [HO.out, HOB.out], below_five HB1.out (Nat.le_succ _) _ _ _ _ _, by rw [HO.out]; exact World.ownsRow_nil _ _ _ _, by rw [HO.out]; exact World.ownsRow_nil _ _ _ _, fun j k h => by cases h⟩
  | true =>
    obtain ⟨hs1, hst, hx, hc⟩ := root_stood hrb
    have HOB : Hid (onB key.data.toList s l up ps cut = goesB (cntN s l) (readOut s l).2.1 cut) := hid (by unfold onB; rw [hrb, Bool.true_and])
    have HO : Hid (onOut key s l up ps cut = if goesB (cntN s l) (readOut s l).2.1 cut = true then (key, 1, onW l (cntN s l) cut, decide (4 ≤ cut), if 4 ≤ cut then resets 8 else []) else (⟨#[]⟩, 0, [], false, [])) := hid (by unfold onOut; rw [HOB.out])
    have HF := hid (fun hg => on_facts (cut := cut) hst hx hc hg)
    have HN := hid (fun hg => (one_put (cut := cut) hst hx hc).1 hg)
    rw [hrb, if_pos rfl] at CB
    subst hs1
    have HWY := hid (fun hp => one_w_yes hst hx.1 hp)
    have HWN := hid (fun hp => one_w_no hst hx.1 hp)
    have HPA := hid (fun h => put_apply (W := l) (x := cntN 1 l) (cut := cut) h)
    have CW := hid (fun a b W ha hb hnil => writes_spec 1 l [cntN 1 l + 1] hl (by show 1 ≤ 1048576; decide) a b W ha hb hnil)
    unfold WritesPost at CW
    obtain ⟨_, hFl⟩ := writesOut_few 1 l [cntN 1 l + 1] (by show 1 ≤ 1048576; decide)
    have hxb := hx
    unfold inN at hxb
    obtain ⟨hx0, hx1⟩ := hxb
    clear hrb hst hx hc
    generalize cntN 1 l = x at *
    generalize (readOut 1 l).2.1 = c at *
    by_cases hmx : x = 1000000000
    · have hg : goesB x c cut = false := by unfold goesB; exact decide_eq_false (by omega)
      rw [hg] at HO HOB
      simp only [Bool.false_eq_true, if_false] at HO
      subst hmx
      clear hg hFl CW HWY HWN HPA HF HN
      go_enter Tryd.func11, Tryd.ntmps11
      go_wp2_with (go_at_call 49; rw [← HW0.out]; refine (CB.out _ HB0.out).mono ?_; rintro e w1 ⟨rfl, hb1⟩; refine Hid.out ?_)
      refine hid ?_
      have HB1 := hid (HB0.out.trans (hb1.mono HB0.out.size))
      have HZ1 := hid ((hb1.block _ hz0).trans HZ0.out)
      have HV1 := hid ((hb1.block w.heap.size (by omega)).trans HV0.out)
      have hz1 := hb1.size
      clear hb1 k0 k1 k2 k3 k4
      clear HV1
      obtain ⟨z0, z1, z2, z3, z4⟩ := five_cells HZ1.out
      have f0 := five_thaw HZ1.out 0
      have f1 := five_thaw HZ1.out 1
      have f2 := five_thaw HZ1.out 2
      have f3 := five_thaw HZ1.out 3
      have f4 := five_thaw HZ1.out 4
      go_wp2
      refine bodyPost_ret (v := .tuple #[.agg #[.string ⟨#[]⟩, .int .i64 0, .slice none 0 0, .bool false, .slice none 0 0], .bool false]) (by simp [results, Tryd.results11, go_sem, z0, z1, z2, z3, z4]) rfl ⟨_, .slice none 0 0, by rw [HO.out, HOB.out], below_five HB1.out (Nat.le_succ _) _ _ _ _ _, by rw [HO.out]; exact World.ownsRow_nil _ _ _ _, by rw [HO.out]; exact World.ownsRow_nil _ _ _ _, fun j k h => by cases h⟩
    · have hx2 : x + 1 ≤ 1000000000 := by omega
      have hbe : (x == 1000000000) = false := beq_eq_false_iff_ne.2 hmx
      clear hmx
      have HFL := hid hFl
      clear hFl
      by_cases hcm : c = 1000000000
      · have hg : goesB x c cut = false := by unfold goesB; exact decide_eq_false (by omega)
        rw [hg] at HO HOB
        simp only [Bool.false_eq_true, if_false] at HO
        have h22 := HWN.out (by omega)
        rw [h22] at CW
        generalize (writesOut 1 l [x + 1]).1 = n at *
        generalize (writesOut 1 l [x + 1]).2.1 = F at *
        have CWW := hid (fun W (hW : Below w.heap.size w W) => CW.out _ _ _ (H1.out.on (hW.alloc hW.size (.cells #[.int .i64 (x + 1)] 2))) (row_lit W (x + 1) 2) (fun c h => by simp at h))
        clear CW HWY HWN HPA HF HN hg h22
        go_enter Tryd.func11, Tryd.ntmps11
        go_wp2_with (go_at_call 49; rw [← HW0.out]; refine (CB.out _ HB0.out).mono ?_; rintro e w1 ⟨rfl, hb1⟩; refine Hid.out ?_)
        refine hid ?_
        have HB1 := hid (HB0.out.trans (hb1.mono HB0.out.size))
        have HZ1 := hid ((hb1.block _ hz0).trans HZ0.out)
        have HV1 := hid ((hb1.block w.heap.size (by omega)).trans HV0.out)
        have hz1 := hb1.size
        clear hb1 k0 k1 k2 k3 k4
        obtain ⟨k0, k1, k2, k3, k4⟩ := five_cells HV1.out
        obtain ⟨m0, m1, m2, m3, m4⟩ := five_cells ((((Below.refl w1.heap.size w1).alloc (Nat.le_refl _) (.cells #[.int .i64 (x + 1)] 2)).block w.heap.size (by omega)).trans HV1.out)
        go_wp2_with (go_at_call 50; refine (CWW.out w1 HB1.out).mono ?_; rintro e w2 ⟨sv, rfl, hb2, ho2⟩; refine Hid.out ?_)
        refine hid ?_
        have hz2 : w1.heap.size + 1 ≤ w2.heap.size := by have := hb2.size; simp at this; exact this
        have HB2 := hid (HB1.out.trans ((((Below.refl w1.heap.size w1).alloc (Nat.le_refl _) _).trans (hb2.mono (by simp))).mono HB1.out.size))
        have HZ2 := hid ((hb2.block (w.heap.size + 1) (by simp; omega)).trans ((((Below.refl w1.heap.size w1).alloc (Nat.le_refl _) _).block _ (by omega)).trans HZ1.out))
        clear hb2 ho2 k0 k1 k2 k3 k4 m0 m1 m2 m3 m4
        obtain ⟨z0, z1, z2, z3, z4⟩ := five_cells HZ2.out
        have f0 := five_thaw HZ2.out 0
        have f1 := five_thaw HZ2.out 1
        have f2 := five_thaw HZ2.out 2
        have f3 := five_thaw HZ2.out 3
        have f4 := five_thaw HZ2.out 4
        go_wp2
        refine bodyPost_ret (v := .tuple #[.agg #[.string ⟨#[]⟩, .int .i64 0, .slice none 0 0, .bool false, .slice none 0 0], .bool false]) (by simp [results, Tryd.results11, go_sem, z0, z1, z2, z3, z4]) rfl ⟨_, .slice none 0 0, by rw [HO.out, HOB.out], below_five HB2.out (Nat.le_succ _) _ _ _ _ _, by rw [HO.out]; exact World.ownsRow_nil _ _ _ _, by rw [HO.out]; exact World.ownsRow_nil _ _ _ _, fun j k h => by cases h⟩
      · obtain ⟨h22, h4n⟩ := HWY.out ⟨hx2, hcm⟩
        have hpa := HPA.out h22
        rw [h22, h4n] at CW
        rw [h4n] at hpa
        rw [h4n] at HFL
        generalize (writesOut 1 l [x + 1]).2.1 = F at *
        have CWW := hid (fun W (hW : Below w.heap.size w W) => CW.out _ _ _ (H1.out.on (hW.alloc hW.size (.cells #[.int .i64 (x + 1)] 2))) (row_lit W (x + 1) 2) (fun c h => by simp at h))
        have CA := hid (fun a b W ha hb => apply_spec 1 l hl 4 F cut hcn a b W ha hb)
        unfold ApplyPost at CA
        rw [← hpa] at CA
        clear CW HWY HWN HPA h22 h4n hpa
        cases hg : goesB x c cut with
        | false =>
          rw [hg] at HO HOB
          simp only [Bool.false_eq_true, if_false] at HO
          rw [HN.out hg] at CA
          dsimp only at CA
          clear hg HF HN
          go_enter Tryd.func11, Tryd.ntmps11
          go_wp2_with (go_at_call 49; rw [← HW0.out]; refine (CB.out _ HB0.out).mono ?_; rintro e w1 ⟨rfl, hb1⟩; refine Hid.out ?_)
          refine hid ?_
          have HB1 := hid (HB0.out.trans (hb1.mono HB0.out.size))
          have HZ1 := hid ((hb1.block _ hz0).trans HZ0.out)
          have HV1 := hid ((hb1.block w.heap.size (by omega)).trans HV0.out)
          have hz1 := hb1.size
          clear hb1 k0 k1 k2 k3 k4
          obtain ⟨k0, k1, k2, k3, k4⟩ := five_cells HV1.out
          obtain ⟨m0, m1, m2, m3, m4⟩ := five_cells ((((Below.refl w1.heap.size w1).alloc (Nat.le_refl _) (.cells #[.int .i64 (x + 1)] 2)).block w.heap.size (by omega)).trans HV1.out)
          go_wp2_with (go_at_call 50; refine (CWW.out w1 HB1.out).mono ?_; rintro e w2 ⟨sv, rfl, hb2, ho2⟩; refine Hid.out ?_)
          refine hid ?_
          have hz2 : w1.heap.size + 1 ≤ w2.heap.size := by have := hb2.size; simp at this; exact this
          have HB2 := hid (HB1.out.trans ((((Below.refl w1.heap.size w1).alloc (Nat.le_refl _) _).trans (hb2.mono (by simp))).mono HB1.out.size))
          have HZ2 := hid ((hb2.block (w.heap.size + 1) (by simp; omega)).trans ((((Below.refl w1.heap.size w1).alloc (Nat.le_refl _) _).block _ (by omega)).trans HZ1.out))
          have HV2 := hid ((hb2.block w.heap.size (by simp; omega)).trans ((((Below.refl w1.heap.size w1).alloc (Nat.le_refl _) _).block _ (by omega)).trans HV1.out))
          have HR2 := hid (wrow_own HFL.out ho2)
          obtain ⟨qw, cw, rfl⟩ : ∃ qw cw, sv = .slice qw 4 cw := by
            rcases ho2.2 with ⟨_, h0⟩ | ⟨g, cc, cur, hsv, _⟩
            · omega
            · exact ⟨_, _, hsv⟩
          clear hb2 ho2 k0 k1 k2 k3 k4 m0 m1 m2 m3 m4
          obtain ⟨k0, k1, k2, k3, k4⟩ := five_cells HV2.out
          go_wp2_with (go_at_call 51; refine (CA.out _ _ _ (H1.out.on HB2.out) HR2.out).mono ?_; rintro e w3 ⟨sv3, rfl, hb3, ho3⟩; refine Hid.out ?_)
          refine hid ?_
          have HB3 := hid (HB2.out.trans (hb3.mono HB2.out.size))
          have HZ3 := hid ((hb3.block (w.heap.size + 1) (by omega)).trans HZ2.out)
          have hz3 := hb3.size
          obtain ⟨q, m, cc, rfl⟩ : ∃ q m cc, sv3 = .slice q m cc := by
            rcases ho3.2 with ⟨hsv, _⟩ | ⟨g, cc, cur, hsv, _⟩
            · exact ⟨_, _, _, hsv⟩
            · exact ⟨_, _, _, hsv⟩
          clear hb3 ho3 k0 k1 k2 k3 k4
          obtain ⟨W4, hW4⟩ : ∃ W4, W4 = w3.alloc (.cells #[.int .i64 0, .slice q m cc] 29) := ⟨_, rfl⟩
          have hb4 : Below w3.heap.size w3 W4 := by rw [hW4]; exact (Below.refl _ _).alloc (Nat.le_refl _) _
          have HB4 := hid (HB3.out.trans (hb4.mono HB3.out.size))
          have HZ4 := hid ((hb4.block _ (by omega)).trans HZ3.out)
          obtain ⟨z0, z1, z2, z3, z4⟩ := five_cells HZ4.out
          have f0 := five_thaw HZ4.out 0
          have f1 := five_thaw HZ4.out 1
          have f2 := five_thaw HZ4.out 2
          have f3 := five_thaw HZ4.out 3
          have f4 := five_thaw HZ4.out 4
          have HBF := hid (below_five HB4.out (Nat.le_succ _) (.string ⟨#[]⟩) (.int .i64 0) (.slice none 0 0) (.bool false) (.slice none 0 0))
          rw [hW4] at z0 z1 z2 z3 z4 f0 f1 f2 f3 f4 HBF
          clear hb4 hW4
          go_wp2
          refine bodyPost_ret (v := .tuple #[.agg #[.string ⟨#[]⟩, .int .i64 0, .slice none 0 0, .bool false, .slice none 0 0], .bool false]) (by simp [results, Tryd.results11, go_sem, z0, z1, z2, z3, z4]) rfl ⟨_, .slice none 0 0, by rw [HO.out, HOB.out], HBF.out, by rw [HO.out]; exact World.ownsRow_nil _ _ _ _, by rw [HO.out]; exact World.ownsRow_nil _ _ _ _, fun j k h => by cases h⟩
        | true =>
          have HF1 := HF.out hg
          have HL6 := hid HF1.2.1
          rw [HF1.1] at CA
          rw [hg] at HO HOB
          simp only [if_true] at HO
          dsimp only at CA
          rw [HF1.2.1] at CA
          clear hg HF HN HF1
          generalize onW l x cut = L at *
          by_cases h4 : 4 ≤ cut
          · have h4b : decide (4 ≤ cut) = true := decide_eq_true h4
            go_enter Tryd.func11, Tryd.ntmps11
            go_wp2_with (go_at_call 49; rw [← HW0.out]; refine (CB.out _ HB0.out).mono ?_; rintro e w1 ⟨rfl, hb1⟩; refine Hid.out ?_)
            refine hid ?_
            have HB1 := hid (HB0.out.trans (hb1.mono HB0.out.size))
            have HZ1 := hid ((hb1.block _ hz0).trans HZ0.out)
            have HV1 := hid ((hb1.block w.heap.size (by omega)).trans HV0.out)
            have hz1 := hb1.size
            clear hb1 k0 k1 k2 k3 k4
            obtain ⟨k0, k1, k2, k3, k4⟩ := five_cells HV1.out
            obtain ⟨m0, m1, m2, m3, m4⟩ := five_cells ((((Below.refl w1.heap.size w1).alloc (Nat.le_refl _) (.cells #[.int .i64 (x + 1)] 2)).block w.heap.size (by omega)).trans HV1.out)
            go_wp2_with (go_at_call 50; refine (CWW.out w1 HB1.out).mono ?_; rintro e w2 ⟨sv, rfl, hb2, ho2⟩; refine Hid.out ?_)
            refine hid ?_
            have hz2 : w1.heap.size + 1 ≤ w2.heap.size := by have := hb2.size; simp at this; exact this
            have HB2 := hid (HB1.out.trans ((((Below.refl w1.heap.size w1).alloc (Nat.le_refl _) _).trans (hb2.mono (by simp))).mono HB1.out.size))
            have HZ2 := hid ((hb2.block (w.heap.size + 1) (by simp; omega)).trans ((((Below.refl w1.heap.size w1).alloc (Nat.le_refl _) _).block _ (by omega)).trans HZ1.out))
            have HV2 := hid ((hb2.block w.heap.size (by simp; omega)).trans ((((Below.refl w1.heap.size w1).alloc (Nat.le_refl _) _).block _ (by omega)).trans HV1.out))
            have HR2 := hid (wrow_own HFL.out ho2)
            obtain ⟨qw, cw, rfl⟩ : ∃ qw cw, sv = .slice qw 4 cw := by
              rcases ho2.2 with ⟨_, h0⟩ | ⟨g, cc, cur, hsv, _⟩
              · omega
              · exact ⟨_, _, hsv⟩
            clear hb2 ho2 k0 k1 k2 k3 k4 m0 m1 m2 m3 m4
            obtain ⟨k0, k1, k2, k3, k4⟩ := five_cells HV2.out
            go_wp2_with (go_at_call 51; refine (CA.out _ _ _ (H1.out.on HB2.out) HR2.out).mono ?_; rintro e w3 ⟨sv3, rfl, hb3, ho3⟩; refine Hid.out ?_)
            refine hid ?_
            have HB3 := hid (HB2.out.trans (hb3.mono HB2.out.size))
            have HZ3 := hid ((hb3.block (w.heap.size + 1) (by omega)).trans HZ2.out)
            have HV3 := hid ((hb3.block w.heap.size (by omega)).trans HV2.out)
            have hz3 := hb3.size
            obtain ⟨g, cc, rfl, hg1, hg2⟩ := own_form ho3 (by decide)
            have HO3 := hid ho3
            clear hb3 ho3 k0 k1 k2 k3 k4
            obtain ⟨W5, hW5⟩ : ∃ W5, W5 = (w3.alloc (.cells #[.int .i64 1, .slice (some ⟨g, 0, none⟩) 6 cc] 29)).alloc (.cells #[.string key, .int .i64 1, .slice (some ⟨g, 0, none⟩) 6 cc, .bool true, .slice none 0 0] 31) := ⟨_, rfl⟩
            have hb5 : Below w3.heap.size w3 W5 := by rw [hW5]; exact ((Below.refl _ _).alloc (Nat.le_refl _) _).alloc (by simp) _
            have HN5 : Hid (W5.heap[w3.heap.size + 1]? = some (.cells #[.string key, .int .i64 1, .slice (some ⟨g, 0, none⟩) 6 cc, .bool true, .slice none 0 0] 31)) := hid (by rw [hW5]; exact heap_two_new _ _)
            have HB5 := hid (HB3.out.trans (hb5.mono HB3.out.size))
            have HZ5 := hid ((hb5.block _ (by omega)).trans HZ3.out)
            have HO5 := hid (own_below HO3.out hb5)
            have hz5 : w3.heap.size + 1 < W5.heap.size := by rw [hW5]; simp
            have HW5 := hid hW5
            have k0 := (five_cells HV3.out).1
            have m0 := (five_cells ((((Below.refl w3.heap.size w3).alloc (Nat.le_refl _) (.cells #[.int .i64 1, .slice (some ⟨g, 0, none⟩) 6 cc] 29)).block w.heap.size (by omega)).trans HV3.out)).1
            clear hb5 hW5
            have CC := hid (specCleared_calls W5)
            go_wp2_with (go_at_call 52; rw [← HW5.out]; refine CC.out.mono ?_; rintro e w7 ⟨rv, rfl, hb7, ho7⟩; refine Hid.out ?_)
            refine hid ?_
            have HB7 := hid (HB5.out.trans (hb7.mono HB5.out.size))
            have HZ7 := hid ((hb7.block _ (by omega)).trans HZ5.out)
            have HN7 := hid ((hb7.block _ hz5).trans HN5.out)
            have HO7 := hid (own_below HO5.out hb7)
            have hz7 := hb7.size
            obtain ⟨q, d, rfl, _⟩ := texts_of ho7
            have HLR := hid ho7.lt
            have HR7 := hid ho7
            clear hb7 ho7
            obtain ⟨z0, z1, z2, z3, z4⟩ := five_cells HZ7.out
            have f0 := five_thaw HZ7.out 0
            have f1 := five_thaw HZ7.out 1
            have f2 := five_thaw HZ7.out 2
            have f3 := five_thaw HZ7.out 3
            have f4 := five_thaw HZ7.out 4
            obtain ⟨n0, n1, n2, n3, n4⟩ := five_cells HN7.out
            have e4 := five_thaw HN7.out 4
            go_wp2
            refine bodyPost_ret (v := .tuple #[.agg #[.string key, .int .i64 1, .slice (some ⟨g, 0, none⟩) 6 cc, .bool true, .slice q (resets 8).length d], .bool true]) (by simp [results, Tryd.results11, go_sem, z0, z1, z2, z3, z4]) rfl ⟨_, .slice q (resets 8).length d, by rw [HO.out, HOB.out, h4b], ?_, ?_, ?_, ?_⟩
            · exact below_five (HB7.out.setCell (p := ⟨w3.heap.size + 1, 4, none⟩) (by show w.heap.size ≤ w3.heap.size + 1; omega) _) (Nat.le_succ _) _ _ _ _ _
            · rw [HO.out]
              dsimp only
              rw [HL6.out]
              exact own_five (ownsRow_setCell_other (own_raise HO7.out HB2.out.size) (a := ⟨w3.heap.size + 1, 4, none⟩) (fun e => by have e2 : g = w3.heap.size + 1 := Option.some.inj e; omega) _) (fun e => by have e2 : g = w.heap.size + 1 := Option.some.inj e; omega) _ _ _ _ _
            · rw [HO.out]
              dsimp only
              rw [if_pos h4]
              exact own_five (ownsRow_setCell_other (own_base HR7.out HB5.out.size) (a := ⟨w3.heap.size + 1, 4, none⟩) (fun e => by have := (HLR.out _ e).1; have e3 : W5.heap.size ≤ w3.heap.size + 1 := this; omega) _) (fun e => by have := (HLR.out _ e).1; omega) _ _ _ _ _
            · intro j k h1 h2
              have e1 : g = j := Option.some.inj h1
              have e2 := (HLR.out _ h2).1
              omega
          · have h4b : decide (4 ≤ cut) = false := decide_eq_false h4
            go_enter Tryd.func11, Tryd.ntmps11
            go_wp2_with (go_at_call 49; rw [← HW0.out]; refine (CB.out _ HB0.out).mono ?_; rintro e w1 ⟨rfl, hb1⟩; refine Hid.out ?_)
            refine hid ?_
            have HB1 := hid (HB0.out.trans (hb1.mono HB0.out.size))
            have HZ1 := hid ((hb1.block _ hz0).trans HZ0.out)
            have HV1 := hid ((hb1.block w.heap.size (by omega)).trans HV0.out)
            have hz1 := hb1.size
            clear hb1 k0 k1 k2 k3 k4
            obtain ⟨k0, k1, k2, k3, k4⟩ := five_cells HV1.out
            obtain ⟨m0, m1, m2, m3, m4⟩ := five_cells ((((Below.refl w1.heap.size w1).alloc (Nat.le_refl _) (.cells #[.int .i64 (x + 1)] 2)).block w.heap.size (by omega)).trans HV1.out)
            go_wp2_with (go_at_call 50; refine (CWW.out w1 HB1.out).mono ?_; rintro e w2 ⟨sv, rfl, hb2, ho2⟩; refine Hid.out ?_)
            refine hid ?_
            have hz2 : w1.heap.size + 1 ≤ w2.heap.size := by have := hb2.size; simp at this; exact this
            have HB2 := hid (HB1.out.trans ((((Below.refl w1.heap.size w1).alloc (Nat.le_refl _) _).trans (hb2.mono (by simp))).mono HB1.out.size))
            have HZ2 := hid ((hb2.block (w.heap.size + 1) (by simp; omega)).trans ((((Below.refl w1.heap.size w1).alloc (Nat.le_refl _) _).block _ (by omega)).trans HZ1.out))
            have HV2 := hid ((hb2.block w.heap.size (by simp; omega)).trans ((((Below.refl w1.heap.size w1).alloc (Nat.le_refl _) _).block _ (by omega)).trans HV1.out))
            have HR2 := hid (wrow_own HFL.out ho2)
            obtain ⟨qw, cw, rfl⟩ : ∃ qw cw, sv = .slice qw 4 cw := by
              rcases ho2.2 with ⟨_, h0⟩ | ⟨g, cc, cur, hsv, _⟩
              · omega
              · exact ⟨_, _, hsv⟩
            clear hb2 ho2 k0 k1 k2 k3 k4 m0 m1 m2 m3 m4
            obtain ⟨k0, k1, k2, k3, k4⟩ := five_cells HV2.out
            go_wp2_with (go_at_call 51; refine (CA.out _ _ _ (H1.out.on HB2.out) HR2.out).mono ?_; rintro e w3 ⟨sv3, rfl, hb3, ho3⟩; refine Hid.out ?_)
            refine hid ?_
            have HB3 := hid (HB2.out.trans (hb3.mono HB2.out.size))
            have HZ3 := hid ((hb3.block (w.heap.size + 1) (by omega)).trans HZ2.out)
            have HV3 := hid ((hb3.block w.heap.size (by omega)).trans HV2.out)
            have hz3 := hb3.size
            obtain ⟨g, cc, rfl, hg1, hg2⟩ := own_form ho3 (by decide)
            have HO3 := hid ho3
            clear hb3 ho3 k0 k1 k2 k3 k4
            obtain ⟨W5, hW5⟩ : ∃ W5, W5 = (w3.alloc (.cells #[.int .i64 1, .slice (some ⟨g, 0, none⟩) 6 cc] 29)).alloc (.cells #[.string key, .int .i64 1, .slice (some ⟨g, 0, none⟩) 6 cc, .bool false, .slice none 0 0] 31) := ⟨_, rfl⟩
            have hb5 : Below w3.heap.size w3 W5 := by rw [hW5]; exact ((Below.refl _ _).alloc (Nat.le_refl _) _).alloc (by simp) _
            have HN5 : Hid (W5.heap[w3.heap.size + 1]? = some (.cells #[.string key, .int .i64 1, .slice (some ⟨g, 0, none⟩) 6 cc, .bool false, .slice none 0 0] 31)) := hid (by rw [hW5]; exact heap_two_new _ _)
            have HB5 := hid (HB3.out.trans (hb5.mono HB3.out.size))
            have HZ5 := hid ((hb5.block _ (by omega)).trans HZ3.out)
            have HO5 := hid (own_below HO3.out hb5)
            have hz5 : w3.heap.size + 1 < W5.heap.size := by rw [hW5]; simp
            have HW5 := hid hW5
            have k0 := (five_cells HV3.out).1
            have m0 := (five_cells ((((Below.refl w3.heap.size w3).alloc (Nat.le_refl _) (.cells #[.int .i64 1, .slice (some ⟨g, 0, none⟩) 6 cc] 29)).block w.heap.size (by omega)).trans HV3.out)).1
            clear hb5 hW5
            obtain ⟨z0, z1, z2, z3, z4⟩ := five_cells HZ5.out
            have f0 := five_thaw HZ5.out 0
            have f1 := five_thaw HZ5.out 1
            have f2 := five_thaw HZ5.out 2
            have f3 := five_thaw HZ5.out 3
            have f4 := five_thaw HZ5.out 4
            obtain ⟨n0, n1, n2, n3, n4⟩ := five_cells HN5.out
            have HBF := hid (below_five HB5.out (Nat.le_succ _) (.string key) (.int .i64 1) (.slice (some ⟨g, 0, none⟩) 6 cc) (.bool false) (.slice none 0 0))
            have HOF := hid (own_five (b := w.heap.size + 1) (own_raise HO5.out HB2.out.size) (fun e => by have e2 : g = w.heap.size + 1 := Option.some.inj e; omega) (.string key) (.int .i64 1) (.slice (some ⟨g, 0, none⟩) 6 cc) (.bool false) (.slice none 0 0))
            rw [HW5.out] at z0 z1 z2 z3 z4 f0 f1 f2 f3 f4 n0 n1 n2 n3 n4 HBF HOF
            go_wp2
            refine bodyPost_ret (v := .tuple #[.agg #[.string key, .int .i64 1, .slice (some ⟨g, 0, none⟩) 6 cc, .bool false, .slice none 0 0], .bool true]) (by simp [results, Tryd.results11, go_sem, z0, z1, z2, z3, z4]) rfl ⟨_, .slice none 0 0, by rw [HO.out, HOB.out, h4b], HBF.out, ?_, ?_, fun j k _ h => by cases h⟩
            · rw [HO.out]
              dsimp only
              rw [HL6.out]
              exact HOF.out
            · rw [HO.out]
              dsimp only
              rw [if_neg (show ¬ 4 ≤ cut by omega)]
              exact World.ownsRow_nil _ _ _ _
end Go.Proofs.YtphabggmbdpibaaDoor
