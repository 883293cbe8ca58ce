/- A token accepted, the program's. -/
import Derived.Test.YtjaaplcgphlccaaGreatDoorAccBook
import Derived.Test.YtjaaplcgphlccaaGreatDoorRelTold
namespace Go.Proofs.YtjaaplcgphlccaaGreatDoor
open Go.RowKit Go.WideMaps Go.Maps
open Go.Lib (hid)

theorem acc2_rising {is ask ts : List (List UInt8)} {x name t : ByteArray} {boots : Int} (h : Rising ask) : Rising (acc2 is ask ts x name boots t) := by
  unfold acc2
  split
  · exact lessR_rising h _
  · exact h

theorem acc3_rising {is ask ts : List (List UInt8)} {x name t : ByteArray} {boots : Int} (h : Rising ts) : Rising (acc3 is ask ts x name boots t) := by
  unfold acc3
  split
  · exact insR_rising _ _
  · exact h

theorem rel_pubs {is ask ts : List (List UInt8)} (h : relB is ask ts = true) : ∀ k ∈ is, (nodeOf (bytesOf k)).1 = 6 := by
  unfold relB at h
  rw [Bool.and_eq_true] at h
  exact pubs_iff.1 h.2

theorem below_acc_al {b : Nat} {w W : World} (h : Below w.heap.size w W) (hb : w.heap.size ≤ b) (x0 x1 x2 : Value) (o : Obj) : Below w.heap.size w ((((W.setCell ⟨b, 0, none⟩ x0).setCell ⟨b, 1, none⟩ x1).setCell ⟨b, 2, none⟩ x2).alloc o) :=
  (below_three h hb x0 x1 x2).alloc (below_three h hb x0 x1 x2).size o

set_option maxRecDepth 20000 in
set_option maxHeartbeats 4000000 in
theorem acc_book (is ask ts : List (List UInt8)) (t x name : ByteArray) (boots : Int) (hx : x.size ≤ maxLen) (hr : relB is ask ts = true) (s1 s2 s3 : Nat) (h12 : s1 < s2) (h23 : s2 < s3) (w : World)
    (o1 : w.ownsMap Tryz.prog 9 (unitElem (H := Unit)) s1 is.length (setD is)) (o2 : w.ownsMap Tryz.prog 9 (unitElem (H := Unit)) s2 ask.length (setD ask)) (o3 : w.ownsMap Tryz.prog 9 (unitElem (H := Unit)) s3 ts.length (setD ts)) (hT : Tab w) (hG : 0 < w.heap.size) (hP : Lib.TabIs Tryz.prog w "internal/strconv.uint64pow10" .u64 Lib.pow10Tab) :
    Calls Tryz.prog 28 #[.agg #[.map (some s1), .map (some s2), .map (some s3)], .string t, .string x, .string name, .int .i64 boots] w fun e w' => e = .returned (.int .i64 (accL is ask ts x name boots t)) ∧ (∃ wm, w.grownBy wm (some s2) ∧ wm.grownBy w' (some s3)) ∧
      ∃ (n2 : Nat) (D2 : DataW Unit) (n3 : Nat) (D3 : DataW Unit), w'.ownsMap Tryz.prog 9 (unitElem (H := Unit)) s1 is.length (setD is) ∧ w'.ownsMap Tryz.prog 9 (unitElem (H := Unit)) s2 n2 D2 ∧ w'.ownsMap Tryz.prog 9 (unitElem (H := Unit)) s3 n3 D3 ∧
        Maps.size D2 ≤ 1048576 ∧ (∀ z, has D2 (.string z) = true ↔ z ∈ acc2 is ask ts x name boots t) ∧ Maps.size D3 ≤ 1048576 ∧ (∀ z, has D3 (.string z) = true ↔ z ∈ acc3 is ask ts x name boots t) := by
  obtain ⟨⟨a1, a2⟩, ⟨b1, b2⟩, ⟨c1, c2⟩⟩ := rel_parts hr
  have hs2 := size_setD (H := Unit) b2
  have hs3 := size_setD (H := Unit) c2
  refine (accept_calls is ask ts s1 s2 s3 is.length ask.length ts.length t x name boots hx (by omega) h23 hs3 (good_sig (rel_pubs hr) _ _ _ _) w o1 o2 o3 hT hG hP).mono fun e w' h => ?_
  obtain ⟨he, h1, h2⟩ := h
  by_cases h0 : accL is ask ts x name boots t = 0
  · obtain ⟨wm, g1, g2, p2, p3⟩ := h2 h0
    refine ⟨he, ⟨wm, g1, g2⟩, _, _, _, _, (o1.kept g1 (by simp; omega)).kept g2 (by simp; omega), p2, p3, ?_, fun z => ?_, ?_, fun z => ?_⟩
    · have := p2.size_le
      omega
    · unfold acc2
      rw [if_pos h0, lessR_mem]
      by_cases hz : z = x.data.toList
      · subst hz
        exact ⟨fun h => by rw [has_del_same] at h; (cases h), fun h => absurd rfl h.2⟩
      · rw [has_del_other (fun e => hz (by injection e)), set_has]
        exact ⟨fun h => ⟨h, hz⟩, fun h => h.1⟩
    · have := p3.size_le
      omega
    · unfold acc3
      rw [if_pos h0, insR_mem]
      by_cases hz : z = x.data.toList
      · subst hz
        exact ⟨fun _ => Or.inr rfl, fun _ => has_put_same (tidy_set _).isMap (setKeyed.key (keyOf_string_mk (P := Tryz.prog) Tryz.underlying9 hx)) _⟩
      · rw [has_put_other (fun e => hz (by injection e)), set_has]
        exact ⟨Or.inl, fun h => h.elim id (fun e => absurd e hz)⟩
  · have hb := h1 h0
    refine ⟨he, ⟨w', grown_below (row := some s2) hb, grown_below (row := some s3) (Below.refl _ _)⟩, _, _, _, _, o1.kept (grown_below (row := none) hb) (by simp), o2.kept (grown_below (row := none) hb) (by simp), o3.kept (grown_below (row := none) hb) (by simp), by rw [hs2]; omega, fun z => ?_, by rw [hs3]; omega, fun z => ?_⟩
    · unfold acc2
      rw [if_neg h0]
      exact set_has ask z
    · unfold acc3
      rw [if_neg h0]
      exact set_has ts z

set_option maxRecDepth 20000 in
set_option maxHeartbeats 4000000 in
theorem acc_impl (is ask ts : List (List UInt8)) (n1 : is.length ≤ 1048576) (s1 : ∀ p ∈ is, p.length ≤ 9223372036854775807) (n2 : ask.length ≤ 1048576) (s2 : ∀ p ∈ ask, p.length ≤ 9223372036854775807) (n3 : ts.length ≤ 1048576) (s3 : ∀ p ∈ ts, p.length ≤ 9223372036854775807) (t x name : ByteArray) (boots : Int) (hx : x.size ≤ maxLen) (a1 a2 a3 : Value) (w : World) (h1 : TextsAt w a1 is) (h2 : TextsAt w a2 ask) (h3 : TextsAt w a3 ts) (hT : Tab w) (hG : 0 < w.heap.size) (hP : Lib.TabIs Tryz.prog w "internal/strconv.uint64pow10" .u64 Lib.pow10Tab) :
    Calls Tryz.prog 8 #[.agg #[a1, a2, a3], .string t, .string x, .string name, .int .i64 boots] w (AccPost is ask ts x name boots t w) := by
  have HFa := hid h1
  have HFb := hid h2
  have HFc := hid h3
  have HTAB := hid hT
  have HPW := hid hP
  have CO := hid (fun W x1 x2 x3 hT hG => openRel_calls is ask ts n1 s1 n2 s2 n3 s3 a1 a2 a3 W x1 x2 x3 hT hG)
  unfold RelPost at CO
  obtain ⟨p, c, rfl, t1⟩ := h1
  obtain ⟨q, d, rfl, t2⟩ := h2
  obtain ⟨u, v, rfl, t3⟩ := h3
  clear t1 t2 t3 n1 n2 n3 s1 s2 s3 hT hP
  have HB0_0 : Hid (Below w.heap.size w w) := hid (Below.refl _ _)
  have hz0 : w.heap.size ≤ w.heap.size := Nat.le_refl _
  obtain ⟨w1, hw1⟩ : ∃ W, W = w.alloc (.cells #[.slice p is.length c, .slice q ask.length d, .slice u ts.length v] 26) := ⟨_, rfl⟩
  have hb1 : Below w.heap.size w w1 := by rw [hw1]; exact (Below.refl _ _).alloc (Nat.le_refl _) _
  have hz1 : w.heap.size < w1.heap.size := by rw [hw1]; simp
  have HVV_1 : Hid (w1.heap[w.heap.size]? = some (.cells #[.slice p is.length c, .slice q ask.length d, .slice u ts.length v] 26)) := hid (by rw [hw1]; exact heap_alloc_new _ _)
  have HW1 := hid hw1
  have HB0_1 := hid (HB0_0.out.trans (hb1.mono HB0_0.out.size))
  clear hw1 hb1
  obtain ⟨w2, hw2⟩ : ∃ W, W = w1.alloc (.cells #[.slice none 0 0, .slice none 0 0, .slice none 0 0] 26) := ⟨_, rfl⟩
  have hb2 : Below w1.heap.size w1 w2 := by rw [hw2]; exact (Below.refl _ _).alloc (Nat.le_refl _) _
  have hz2 : w1.heap.size < w2.heap.size := by rw [hw2]; simp
  have HVZ_2 : Hid (w2.heap[w1.heap.size]? = some (.cells #[.slice none 0 0, .slice none 0 0, .slice none 0 0] 26)) := hid (by rw [hw2]; exact heap_alloc_new _ _)
  have HW2 := hid hw2
  have HB0_2 := hid (HB0_1.out.trans (hb2.mono HB0_1.out.size))
  have HVV_2 := hid ((hb2.block _ (by omega)).trans HVV_1.out)
  clear HB0_1
  clear hw2 hb2
  have hzL : w1.heap.size = w.heap.size + 1 := by rw [HW1.out]; simp
  have hzL2 : w.heap.size + 1 < w2.heap.size := by omega
  rw [hzL] at HVZ_2
  clear hzL
  cases hr : relB is ask ts with
  | false =>
    have HR := hid hr
    rw [hr] at CO
    clear hr
    go_enter Tryz.func8, Tryz.ntmps8
    go_wp2_with (go_at_call 27; rw [← HW1.out]; rw [← HW2.out]; refine (CO.out _ (HFa.out.on HB0_2.out) (HFb.out.on HB0_2.out) (HFc.out.on HB0_2.out) (tab_on HTAB.out hG HB0_2.out) (Nat.lt_of_lt_of_le hG HB0_2.out.size)).mono ?_; rintro e w3 ⟨m1, m2, m3, rfl, hb3, _⟩; refine Hid.out ?_)
    refine hid ?_
    clear HVV_1
    have hz3 := hb3.size
    have HB0_3 := hid (HB0_2.out.trans (hb3.mono HB0_2.out.size))
    have HVV_3 := hid ((hb3.block _ (by omega)).trans HVV_2.out)
    have HVZ_3 := hid ((hb3.block _ (by omega)).trans HVZ_2.out)
    clear HB0_2 HVV_2 HVZ_2
    clear hb3
    obtain ⟨z0, z1, z2⟩ := three_refs HVZ_3.out
    have f0 := st_thaw HVZ_3.out 0
    have f1 := st_thaw HVZ_3.out 1
    have f2 := st_thaw HVZ_3.out 2
    have hq : w.heap.size + 1 < w3.heap.size := by omega
    go_wp2
    exact bodyPost_ret (v := .tuple #[.agg #[.slice none 0 0, .slice none 0 0, .slice none 0 0], .int .i64 1]) (by simp [results, Tryz.results8, go_sem, z0, z1, z2, hq]) rfl (acc_no HR.out rfl (below_acc_al HB0_3.out (Nat.le_succ _) _ _ _ _))
  | true =>
    have HR := hid hr
    rw [hr] at CO
    have HPT := hid (rel_parts hr)
    clear hr
    go_enter Tryz.func8, Tryz.ntmps8
    go_wp2_with (go_at_call 27; rw [← HW1.out]; rw [← HW2.out]; refine (CO.out _ (HFa.out.on HB0_2.out) (HFb.out.on HB0_2.out) (HFc.out.on HB0_2.out) (tab_on HTAB.out hG HB0_2.out) (Nat.lt_of_lt_of_le hG HB0_2.out.size)).mono ?_; rintro e w3 ⟨m1, m2, m3, rfl, hb3, hm⟩; refine Hid.out ?_)
    refine hid ?_
    clear HVV_1
    have hz3 := hb3.size
    have HB0_3 := hid (HB0_2.out.trans (hb3.mono HB0_2.out.size))
    have HVV_3 := hid ((hb3.block _ (by omega)).trans HVV_2.out)
    have HVZ_3 := hid ((hb3.block _ (by omega)).trans HVZ_2.out)
    clear HB0_2 HVV_2 HVZ_2
    clear hb3
    obtain ⟨s1, s2, s3, rfl, rfl, rfl, ⟨l1, l2, l3⟩, o1, o2, o3⟩ := hm (by first | rfl | trivial)
    clear hm
    have HO1 := hid o1
    have HO2 := hid o2
    have HO3 := hid o3
    have hs3 : s3 < w3.heap.size := o3.lt
    clear o1 o2 o3
    obtain ⟨w4, hw4⟩ : ∃ W, W = w3.alloc (.cells #[.map (some s1), .map (some s2), .map (some s3)] 51) := ⟨_, rfl⟩
    have hb4 : Below w3.heap.size w3 w4 := by rw [hw4]; exact (Below.refl _ _).alloc (Nat.le_refl _) _
    have hz4 : w3.heap.size < w4.heap.size := by rw [hw4]; simp
    have HVK_4 : Hid (w4.heap[w3.heap.size]? = some (.cells #[.map (some s1), .map (some s2), .map (some s3)] 51)) := hid (by rw [hw4]; exact heap_alloc_new _ _)
    have HW4 := hid hw4
    have HB0_4 := hid (HB0_3.out.trans (hb4.mono HB0_3.out.size))
    have HVV_4 := hid ((hb4.block _ (by omega)).trans HVV_3.out)
    have HVZ_4 := hid ((hb4.block _ (by omega)).trans HVZ_3.out)
    clear HB0_3
    clear hw4 hb4
    have hbK : Below w3.heap.size w3 w4 := by rw [HW4.out]; exact (Below.refl _ _).alloc (Nat.le_refl _) _
    have P1 := hid (HO1.out.kept (grown_below (row := none) hbK) (by simp))
    have P2 := hid (HO2.out.kept (grown_below (row := none) hbK) (by simp))
    have P3 := hid (HO3.out.kept (grown_below (row := none) hbK) (by simp))
    clear hbK HO1 HO2 HO3
    have CA := hid (acc_book is ask ts t x name boots hx HR.out s1 s2 s3 l2 l3 w4 P1.out P2.out P3.out (tab_on HTAB.out hG HB0_4.out) (Nat.lt_of_lt_of_le hG HB0_4.out.size) (Num.tab_stays HB0_4.out HPW.out))
    have HYES := hid (fun e w' v1 v2 v3 he hb ho => acc_yes (is := is) (ask := ask) (ts := ts) (x := x) (name := name) (boots := boots) (t := t) (w := w) (w' := w') (e := e) (v1 := v1) (v2 := v2) (v3 := v3) HR.out he hb ho)
    have HQR := hid (acc2_rising (is := is) (ts := ts) (x := x) (name := name) (boots := boots) (t := t) HPT.out.2.1.2)
    have HTR := hid (acc3_rising (is := is) (ask := ask) (x := x) (name := name) (boots := boots) (t := t) HPT.out.2.2.2)
    generalize accL is ask ts x name boots t = r at *
    generalize acc2 is ask ts x name boots t = aq at *
    generalize acc3 is ask ts x name boots t = tq at *
    go_wp2_with (go_at_call 28; rw [← HW4.out]; refine CA.out.mono ?_; rintro e w5 ⟨rfl, ⟨wm, hgA, hgB⟩, n9, D9, n8, D8, o1, o2, o3, hz9, hh9, hz8, hh8⟩; refine Hid.out ?_)
    refine hid ?_
    have hzm := hgA.size
    have hz5m := hgB.size
    have hz5 : w4.heap.size ≤ w5.heap.size := Nat.le_trans hzm hz5m
    have HB5 := hid ((HB0_4.out.trans (grown_to hgA HB0_4.out.size (fun k hk => by cases hk; omega))).trans (grown_to hgB (Nat.le_trans HB0_4.out.size hzm) (fun k hk => by cases hk; omega)))
    have HVZ_5 := hid ((hgB.block (w.heap.size + 1) (by omega) (fun e => by have e2 := Option.some.inj e; omega)).trans ((hgA.block (w.heap.size + 1) (by omega) (fun e => by have e2 := Option.some.inj e; omega)).trans HVZ_4.out))
    have HVK_5 := hid ((hgB.block w3.heap.size (by omega) (fun e => by have e2 := Option.some.inj e; omega)).trans ((hgA.block w3.heap.size (by omega) (fun e => by have e2 := Option.some.inj e; omega)).trans HVK_4.out))
    have CT := hid (relying_calls (setD is) D9 D8 _ _ _ s1 s2 s3 _ _ _ w5 o1 o2 o3 (by rw [size_setD HPT.out.1.2]; have := HPT.out.1.1; omega) hz9 hz8 is aq tq HPT.out.1.2 HQR.out HTR.out (set_has is) hh9 hh8)
    clear hgA hgB o1 o2 o3 hz9 hh9 hz8 hh8 HVZ_4 HVK_4 hzm hz5m
    obtain ⟨k0, k1, k2⟩ := three_refs HVK_5.out
    go_wp2_with (go_at_call 29; refine CT.out.mono ?_; rintro e w6 ⟨v1, v2, v3, rfl, hb6, r1, r2, r3, d12, d13, d23⟩; refine Hid.out ?_)
    refine hid ?_
    clear k0 k1 k2
    obtain ⟨q1, e1, rfl⟩ := touch_slice r1
    obtain ⟨q2, e2, rfl⟩ := touch_slice r2
    obtain ⟨q3, e3, rfl⟩ := touch_slice r3
    have HVZ_6 := hid ((hb6.block (w.heap.size + 1) (by omega)).trans HVZ_5.out)
    have HB6 := hid (HB5.out.trans (hb6.mono HB5.out.size))
    have HS6 := hid (show w.heap.size + 1 < w5.heap.size by omega)
    have R1 := hid r1
    have R2 := hid r2
    have R3 := hid r3
    have HD := hid (And.intro d12 (And.intro d13 d23))
    clear r1 r2 r3 d12 d13 d23 hb6
    obtain ⟨z0, z1, z2⟩ := three_refs HVZ_6.out
    have f0 := st_thaw HVZ_6.out 0
    have f1 := st_thaw HVZ_6.out 1
    have f2 := st_thaw HVZ_6.out 2
    go_wp2
    exact bodyPost_ret (v := .tuple #[.agg #[.slice q1 is.length e1, .slice q2 aq.length e2, .slice q3 tq.length e3], .int .i64 r]) (by simp [results, Tryz.results8, go_sem, z0, z1, z2]) rfl
      (HYES.out _ _ _ _ _ rfl (below_three HB6.out (Nat.le_succ _) _ _ _) ⟨own_base (own_at R1.out HS6.out (step_three _ _ _ _ _)) HB5.out.size, own_base (own_at R2.out HS6.out (step_three _ _ _ _ _)) HB5.out.size, own_base (own_at R3.out HS6.out (step_three _ _ _ _ _)) HB5.out.size, ApartV.of_lt HD.out.1, ApartV.of_lt HD.out.2.1, ApartV.of_lt HD.out.2.2⟩)
end Go.Proofs.YtjaaplcgphlccaaGreatDoor
