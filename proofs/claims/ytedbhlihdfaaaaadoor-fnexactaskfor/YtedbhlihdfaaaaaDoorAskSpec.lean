/- A nonce asked for, the specification's. -/
import Derived.Test.YtedbhlihdfaaaaaDoorCopyRel
import Derived.Test.YtedbhlihdfaaaaaDoorRelSpec
import Derived.Test.YtedbhlihdfaaaaaDoorHasSpec
import Derived.Test.YtedbhlihdfaaaaaDoorSpecRising
namespace Go.Proofs.YtedbhlihdfaaaaaDoor
open Go.RowKit Go.WideMaps Go.Maps
open Go.Lib (hid)

theorem rel_own2 {w w' : World} {b base size n : Nat} {e : TypeId} {v : Value} {xs : List Value} (h : w.ownsRow base e size v n xs) (hb : ∀ k, v.ownBlock = some k → k ≠ b) (hs : Step b w w') : w'.ownsRow base e size v n xs := by
  refine ⟨h.1, ?_⟩
  rcases h.2 with hn | ⟨g, cap, cur, e1, hbg, hg, rest⟩
  · exact Or.inl hn
  · refine Or.inr ⟨g, cap, cur, e1, hbg, ?_, rest⟩
    rw [hs.block g (Array.getElem?_eq_some_iff.1 hg).1 (hb g (by rw [e1]; rfl))]
    exact hg

theorem ask_yes_no {is ask ts : List (List UInt8)} {x : ByteArray} {w w' : World} {e : Ending} {v1 v2 v3 : Value} {c : Int} (hr : relB is ask ts = true) (hc : askL ask ts x = c) (h0 : c ≠ 0) (he : e = .returned (.tuple #[.agg #[v1, v2, v3], .int .i64 c])) (hb : Below w.heap.size w w') (ho : Own3 w.heap.size w' v1 v2 v3 is ask ts) : AskPost is ask ts x w e w' := by
  refine ask_yes hr (by rw [hc]; exact he) hb ?_
  unfold askQ
  rw [if_neg (by rw [hc]; exact h0)]
  exact ho

theorem ask_yes_in {is ask ts qs : List (List UInt8)} {x : ByteArray} {w w' : World} {e : Ending} {v1 v2 v3 : Value} (hr : relB is ask ts = true) (hc : askL ask ts x = 0) (hq : Rising qs ∧ ∀ z, z ∈ qs ↔ z ∈ ask ++ [x.data.toList]) (he : e = .returned (.tuple #[.agg #[v1, v2, v3], .int .i64 0])) (hb : Below w.heap.size w w') (ho : Own3 w.heap.size w' v1 v2 v3 is qs ts) : AskPost is ask ts x w e w' := by
  have e1 : qs = insR ask x.data.toList := rising_unique hq.1 (insR_rising _ _) (fun z => by rw [hq.2, insR_mem]; simp)
  refine ask_yes hr (by rw [hc]; exact he) hb ?_
  unfold askQ
  rw [if_pos hc, ← e1]
  exact ho

set_option maxRecDepth 20000 in
set_option maxHeartbeats 4000000 in
theorem ask_spec (is ask ts : List (List UInt8)) (n1 : is.length ≤ 1048576) (s1 : ∀ p ∈ is, p.length ≤ 1048576) (n2 : ask.length ≤ 1048576) (s2 : ∀ p ∈ ask, p.length ≤ 1048576) (n3 : ts.length ≤ 1048576) (s3 : ∀ p ∈ ts, p.length ≤ 1048576) (x : ByteArray) (hx : x.size ≤ 1048576) (a1 a2 a3 : Value) (w : World) (h1 : TextsAt w a1 is) (h2 : TextsAt w a2 ask) (h3 : TextsAt w a3 ts) :
    Calls Tryd.prog 16 #[.agg #[a1, a2, a3], .string x] w (AskPost is ask ts x w) := by
  have HFa := hid h1
  have HFb := hid h2
  have HFc := hid h3
  have CR := hid (fun W x1 x2 x3 => rel_spec is ask ts n1 s1 n2 s2 n3 s3 a1 a2 a3 W x1 x2 x3)
  have CC := hid (fun W x1 x2 x3 => lcopy_spec is ask ts n1 n2 n3 a1 a2 a3 W x1 x2 x3)
  have CK := hid (fun W => kind_spec x W hx)
  have CH2 := hid (fun W h => lhas_spec ask n2 x.data.toList a2 W h)
  have CH3 := hid (fun W h => lhas_spec ts n3 x.data.toList a3 W h)
  rw [set_bytes x] at CH2 CH3
  have HA : Hid (askL ask ts x = if (nodeOf x).1 = 0 then 2 else if x.data.toList ∈ ask ∨ x.data.toList ∈ ts then 3 else if 30 ≤ ask.length then 4 else 0) := hid rfl
  obtain ⟨p, c, rfl, t1⟩ := h1
  obtain ⟨q, d, rfl, t2⟩ := h2
  obtain ⟨u, v, rfl, t3⟩ := h3
  clear t1 t2 t3 n1 s1 s2 n3 s3 hx
  generalize (nodeOf x).1 = kd at *
  have HB0_0 : Hid (Below w.heap.size w w) := hid (Below.refl _ _)
  have hz0 : w.heap.size ≤ w.heap.size := Nat.le_refl _
  obtain ⟨w1, hw1⟩ : ∃ W, W = w.alloc (.cells #[.slice p is.length c, .slice q ask.length d, .slice u ts.length v] 26) := ⟨_, rfl⟩
  have hb1 : Below w.heap.size w w1 := by rw [hw1]; exact (Below.refl _ _).alloc (Nat.le_refl _) _
  have hz1 : w.heap.size < w1.heap.size := by rw [hw1]; simp
  have HVV_1 : Hid (w1.heap[w.heap.size]? = some (.cells #[.slice p is.length c, .slice q ask.length d, .slice u ts.length v] 26)) := hid (by rw [hw1]; exact heap_alloc_new _ _)
  have HW1 := hid hw1
  have HB0_1 := hid (HB0_0.out.trans (hb1.mono HB0_0.out.size))
  clear hw1 hb1
  obtain ⟨w2, hw2⟩ : ∃ W, W = w1.alloc (.cells #[.slice none 0 0, .slice none 0 0, .slice none 0 0] 26) := ⟨_, rfl⟩
  have hb2 : Below w1.heap.size w1 w2 := by rw [hw2]; exact (Below.refl _ _).alloc (Nat.le_refl _) _
  have hz2 : w1.heap.size < w2.heap.size := by rw [hw2]; simp
  have HVZ_2 : Hid (w2.heap[w1.heap.size]? = some (.cells #[.slice none 0 0, .slice none 0 0, .slice none 0 0] 26)) := hid (by rw [hw2]; exact heap_alloc_new _ _)
  have HW2 := hid hw2
  have HB0_2 := hid (HB0_1.out.trans (hb2.mono HB0_1.out.size))
  have HVV_2 := hid ((hb2.block _ (by omega)).trans HVV_1.out)
  clear HB0_1
  clear hw2 hb2
  have hzL : w1.heap.size = w.heap.size + 1 := by rw [HW1.out]; simp
  have hzL2 : w.heap.size + 1 < w2.heap.size := by omega
  rw [hzL] at HVZ_2
  clear hzL
  cases hr : relB is ask ts with
  | false =>
    have HR := hid hr
    rw [hr] at CR
    clear hr
    go_enter Tryd.func16, Tryd.ntmps16
    go_wp2_with (go_at_call 86; rw [← HW1.out]; rw [← HW2.out]; refine (CR.out _ (HFa.out.on HB0_2.out) (HFb.out.on HB0_2.out) (HFc.out.on HB0_2.out)).mono ?_; rintro e w3 ⟨rfl, hb3⟩; refine Hid.out ?_)
    refine hid ?_
    clear HVV_1
    have hz3 := hb3.size
    have HB0_3 := hid (HB0_2.out.trans (hb3.mono HB0_2.out.size))
    have HVV_3 := hid ((hb3.block _ (by omega)).trans HVV_2.out)
    have HVZ_3 := hid ((hb3.block _ (by omega)).trans HVZ_2.out)
    clear HB0_2 HVV_2 HVZ_2
    clear hb3
    obtain ⟨z0, z1, z2⟩ := rel_three HVZ_3.out
    have f0 := st_thaw HVZ_3.out 0
    have f1 := st_thaw HVZ_3.out 1
    have f2 := st_thaw HVZ_3.out 2
    go_wp2
    exact bodyPost_ret (v := .tuple #[.agg #[.slice none 0 0, .slice none 0 0, .slice none 0 0], .int .i64 1]) (by simp [results, Tryd.results16, go_sem, z0, z1, z2]) rfl (ask_no HR.out rfl (rel_below HB0_3.out (Nat.le_succ _) _ _ _))
  | true =>
    have HR := hid hr
    rw [hr] at CR
    have HPT := hid (rel_parts hr)
    clear hr
    go_enter Tryd.func16, Tryd.ntmps16
    go_wp2_with (go_at_call 86; rw [← HW1.out]; rw [← HW2.out]; refine (CR.out _ (HFa.out.on HB0_2.out) (HFb.out.on HB0_2.out) (HFc.out.on HB0_2.out)).mono ?_; rintro e w3 ⟨rfl, hb3⟩; refine Hid.out ?_)
    refine hid ?_
    clear HVV_1
    have hz3 := hb3.size
    have HB0_3 := hid (HB0_2.out.trans (hb3.mono HB0_2.out.size))
    have HVV_3 := hid ((hb3.block _ (by omega)).trans HVV_2.out)
    have HVZ_3 := hid ((hb3.block _ (by omega)).trans HVZ_2.out)
    clear HB0_2 HVV_2 HVZ_2
    clear hb3
    have k_V_0 := (cell_of_row _ _ 0 _ _ _ HVV_3.out).trans rfl
    have k_V_1 := (cell_of_row _ _ 1 _ _ _ HVV_3.out).trans rfl
    have k_V_2 := (cell_of_row _ _ 2 _ _ _ HVV_3.out).trans rfl
    go_wp2_with (go_at_call 87; refine (CC.out _ (HFa.out.on HB0_3.out) (HFb.out.on HB0_3.out) (HFc.out.on HB0_3.out)).mono ?_; rintro e w4 ⟨v1, v2, v3, rfl, hb4, ⟨ha4, hbb4, hcc4, d12, d13, d23⟩⟩; refine Hid.out ?_)
    refine hid ?_
    clear k_V_0 k_V_1 k_V_2
    have hz4 := hb4.size
    have HB0_4 := hid (HB0_3.out.trans (hb4.mono HB0_3.out.size))
    have HVV_4 := hid ((hb4.block _ (by omega)).trans HVV_3.out)
    have HVZ_4 := hid ((hb4.block _ (by omega)).trans HVZ_3.out)
    clear HB0_3 HVV_3 HVZ_3
    have HB4_4 : Hid (Below w4.heap.size w4 w4) := hid (Below.refl _ _)
    have HOA_4 := hid ha4
    have HLA := hid (ha4.lt)
    have HOB_4 := hid hbb4
    have HLB := hid (hbb4.lt)
    have HOC_4 := hid hcc4
    have HLC := hid (hcc4.lt)
    obtain ⟨q1, e1, rfl⟩ := touch_slice HOA_4.out
    obtain ⟨q2, e2, rfl⟩ := touch_slice HOB_4.out
    obtain ⟨q3, e3, rfl⟩ := touch_slice HOC_4.out
    have HD := hid (And.intro d12 (And.intro d13 d23))
    clear d12 d13 d23
    clear hb4 ha4 hbb4 hcc4
    obtain ⟨w5, hw5⟩ : ∃ W, W = w4.alloc (.cells #[.slice q1 is.length e1, .slice q2 ask.length e2, .slice q3 ts.length e3] 26) := ⟨_, rfl⟩
    have hb5 : Below w4.heap.size w4 w5 := by rw [hw5]; exact (Below.refl _ _).alloc (Nat.le_refl _) _
    have hz5 : w4.heap.size < w5.heap.size := by rw [hw5]; simp
    have HVO_5 : Hid (w5.heap[w4.heap.size]? = some (.cells #[.slice q1 is.length e1, .slice q2 ask.length e2, .slice q3 ts.length e3] 26)) := hid (by rw [hw5]; exact heap_alloc_new _ _)
    have HW5 := hid hw5
    have HB0_5 := hid (HB0_4.out.trans (hb5.mono HB0_4.out.size))
    have HB4_5 := hid (HB4_4.out.trans (hb5.mono HB4_4.out.size))
    have HOA_5 := hid (own_below HOA_4.out hb5)
    have HOB_5 := hid (own_below HOB_4.out hb5)
    have HOC_5 := hid (own_below HOC_4.out hb5)
    have HVV_5 := hid ((hb5.block _ (by omega)).trans HVV_4.out)
    have HVZ_5 := hid ((hb5.block _ (by omega)).trans HVZ_4.out)
    clear HB0_4 HB4_4 HOA_4 HOB_4 HOC_4
    clear hw5 hb5
    go_wp2_with (go_at_call 88; rw [← HW5.out]; refine (CK.out _).mono ?_; rintro e w6 ⟨rfl, hb6⟩; refine Hid.out ?_)
    refine hid ?_
    clear HVV_4 HVZ_4
    have hz6 := hb6.size
    have HB0_6 := hid (HB0_5.out.trans (hb6.mono HB0_5.out.size))
    have HB4_6 := hid (HB4_5.out.trans (hb6.mono HB4_5.out.size))
    have HOA_6 := hid (own_below HOA_5.out hb6)
    have HOB_6 := hid (own_below HOB_5.out hb6)
    have HOC_6 := hid (own_below HOC_5.out hb6)
    have HVV_6 := hid ((hb6.block _ (by omega)).trans HVV_5.out)
    have HVZ_6 := hid ((hb6.block _ (by omega)).trans HVZ_5.out)
    have HVO_6 := hid ((hb6.block _ (by omega)).trans HVO_5.out)
    clear HB0_5 HB4_5 HOA_5 HOB_5 HOC_5 HVV_5 HVZ_5 HVO_5
    clear hb6
    by_cases hk : kd = 0
    · subst hk
      have HZ : Hid (askL ask ts x = 2) := hid (by rw [HA.out, if_pos rfl])
      have hkd : (((0 : Nat) : Int) == 0) = true := rfl
      obtain ⟨z0, z1, z2⟩ := rel_three HVZ_6.out
      have f0 := st_thaw HVZ_6.out 0
      have f1 := st_thaw HVZ_6.out 1
      have f2 := st_thaw HVZ_6.out 2
      have k_O_0 := (cell_of_row _ _ 0 _ _ _ HVO_6.out).trans rfl
      have k_O_1 := (cell_of_row _ _ 1 _ _ _ HVO_6.out).trans rfl
      have k_O_2 := (cell_of_row _ _ 2 _ _ _ HVO_6.out).trans rfl
      have hq : w.heap.size + 1 < w3.heap.size := by omega
      have HO3 := hid (show Own3 w.heap.size (((w6.setCell ⟨w.heap.size + 1, 0, none⟩ (.slice q1 is.length e1)).setCell ⟨w.heap.size + 1, 1, none⟩ (.slice q2 ask.length e2)).setCell ⟨w.heap.size + 1, 2, none⟩ (.slice q3 ts.length e3)) (.slice q1 is.length e1) (.slice q2 ask.length e2) (.slice q3 ts.length e3) is ask ts from
        ⟨own_base (rel_own HOA_6.out hq (rel_step _ _ _ _ _)) (by omega), own_base (rel_own HOB_6.out hq (rel_step _ _ _ _ _)) (by omega), own_base (rel_own HOC_6.out hq (rel_step _ _ _ _ _)) (by omega), HD.out.1, HD.out.2.1, HD.out.2.2⟩)
      go_wp2
      exact bodyPost_ret (v := .tuple #[.agg #[.slice q1 is.length e1, .slice q2 ask.length e2, .slice q3 ts.length e3], .int .i64 2]) (by simp [results, Tryd.results16, go_sem, z0, z1, z2]) rfl (ask_yes_no HR.out HZ.out (by decide) rfl (rel_below HB0_6.out (Nat.le_succ _) _ _ _) HO3.out)
    · rw [if_neg hk] at HA
      have hkd : ((kd : Int) == 0) = false := by rw [beq_eq_false_iff_ne]; omega
      clear hk
      by_cases m2 : x.data.toList ∈ ask
      · rw [show decide (x.data.toList ∈ ask) = true from decide_eq_true m2] at CH2
        have HZ : Hid (askL ask ts x = 3) := hid (by rw [HA.out, if_pos (Or.inl m2)])
        clear m2
        have k_V_0 := (cell_of_row _ _ 0 _ _ _ HVV_6.out).trans rfl
        have k_V_1 := (cell_of_row _ _ 1 _ _ _ HVV_6.out).trans rfl
        have k_V_2 := (cell_of_row _ _ 2 _ _ _ HVV_6.out).trans rfl
        go_wp2_with (go_at_call 89; refine (CH2.out _ (HFb.out.on HB0_6.out)).mono ?_; rintro e w7 ⟨rfl, hb7⟩; refine Hid.out ?_)
        refine hid ?_
        clear k_V_0 k_V_1 k_V_2
        have hz7 := hb7.size
        have HB0_7 := hid (HB0_6.out.trans (hb7.mono HB0_6.out.size))
        have HB4_7 := hid (HB4_6.out.trans (hb7.mono HB4_6.out.size))
        have HOA_7 := hid (own_below HOA_6.out hb7)
        have HOB_7 := hid (own_below HOB_6.out hb7)
        have HOC_7 := hid (own_below HOC_6.out hb7)
        have HVV_7 := hid ((hb7.block _ (by omega)).trans HVV_6.out)
        have HVZ_7 := hid ((hb7.block _ (by omega)).trans HVZ_6.out)
        have HVO_7 := hid ((hb7.block _ (by omega)).trans HVO_6.out)
        clear HB0_6 HB4_6 HOA_6 HOB_6 HOC_6 HVV_6 HVZ_6 HVO_6
        clear hb7
        obtain ⟨z0, z1, z2⟩ := rel_three HVZ_7.out
        have f0 := st_thaw HVZ_7.out 0
        have f1 := st_thaw HVZ_7.out 1
        have f2 := st_thaw HVZ_7.out 2
        have k_O_0 := (cell_of_row _ _ 0 _ _ _ HVO_7.out).trans rfl
        have k_O_1 := (cell_of_row _ _ 1 _ _ _ HVO_7.out).trans rfl
        have k_O_2 := (cell_of_row _ _ 2 _ _ _ HVO_7.out).trans rfl
        have hq : w.heap.size + 1 < w3.heap.size := by omega
        have HO3 := hid (show Own3 w.heap.size (((w7.setCell ⟨w.heap.size + 1, 0, none⟩ (.slice q1 is.length e1)).setCell ⟨w.heap.size + 1, 1, none⟩ (.slice q2 ask.length e2)).setCell ⟨w.heap.size + 1, 2, none⟩ (.slice q3 ts.length e3)) (.slice q1 is.length e1) (.slice q2 ask.length e2) (.slice q3 ts.length e3) is ask ts from
          ⟨own_base (rel_own HOA_7.out hq (rel_step _ _ _ _ _)) (by omega), own_base (rel_own HOB_7.out hq (rel_step _ _ _ _ _)) (by omega), own_base (rel_own HOC_7.out hq (rel_step _ _ _ _ _)) (by omega), HD.out.1, HD.out.2.1, HD.out.2.2⟩)
        go_wp2
        exact bodyPost_ret (v := .tuple #[.agg #[.slice q1 is.length e1, .slice q2 ask.length e2, .slice q3 ts.length e3], .int .i64 3]) (by simp [results, Tryd.results16, go_sem, z0, z1, z2]) rfl (ask_yes_no HR.out HZ.out (by decide) rfl (rel_below HB0_7.out (Nat.le_succ _) _ _ _) HO3.out)
      · rw [show decide (x.data.toList ∈ ask) = false from decide_eq_false m2] at CH2
        by_cases m3 : x.data.toList ∈ ts
        · rw [show decide (x.data.toList ∈ ts) = true from decide_eq_true m3] at CH3
          have HZ : Hid (askL ask ts x = 3) := hid (by rw [HA.out, if_pos (Or.inr m3)])
          clear m2 m3
          have k_V_0 := (cell_of_row _ _ 0 _ _ _ HVV_6.out).trans rfl
          have k_V_1 := (cell_of_row _ _ 1 _ _ _ HVV_6.out).trans rfl
          have k_V_2 := (cell_of_row _ _ 2 _ _ _ HVV_6.out).trans rfl
          go_wp2_with (go_at_call 89; refine (CH2.out _ (HFb.out.on HB0_6.out)).mono ?_; rintro e w7 ⟨rfl, hb7⟩; refine Hid.out ?_)
          refine hid ?_
          clear k_V_0 k_V_1 k_V_2
          have hz7 := hb7.size
          have HB0_7 := hid (HB0_6.out.trans (hb7.mono HB0_6.out.size))
          have HB4_7 := hid (HB4_6.out.trans (hb7.mono HB4_6.out.size))
          have HOA_7 := hid (own_below HOA_6.out hb7)
          have HOB_7 := hid (own_below HOB_6.out hb7)
          have HOC_7 := hid (own_below HOC_6.out hb7)
          have HVV_7 := hid ((hb7.block _ (by omega)).trans HVV_6.out)
          have HVZ_7 := hid ((hb7.block _ (by omega)).trans HVZ_6.out)
          have HVO_7 := hid ((hb7.block _ (by omega)).trans HVO_6.out)
          clear HB0_6 HB4_6 HOA_6 HOB_6 HOC_6 HVV_6 HVZ_6 HVO_6
          clear hb7
          have k_V_0 := (cell_of_row _ _ 0 _ _ _ HVV_7.out).trans rfl
          have k_V_1 := (cell_of_row _ _ 1 _ _ _ HVV_7.out).trans rfl
          have k_V_2 := (cell_of_row _ _ 2 _ _ _ HVV_7.out).trans rfl
          go_wp2_with (go_at_call 89; refine (CH3.out _ (HFc.out.on HB0_7.out)).mono ?_; rintro e w8 ⟨rfl, hb8⟩; refine Hid.out ?_)
          refine hid ?_
          clear k_V_0 k_V_1 k_V_2
          have hz8 := hb8.size
          have HB0_8 := hid (HB0_7.out.trans (hb8.mono HB0_7.out.size))
          have HB4_8 := hid (HB4_7.out.trans (hb8.mono HB4_7.out.size))
          have HOA_8 := hid (own_below HOA_7.out hb8)
          have HOB_8 := hid (own_below HOB_7.out hb8)
          have HOC_8 := hid (own_below HOC_7.out hb8)
          have HVV_8 := hid ((hb8.block _ (by omega)).trans HVV_7.out)
          have HVZ_8 := hid ((hb8.block _ (by omega)).trans HVZ_7.out)
          have HVO_8 := hid ((hb8.block _ (by omega)).trans HVO_7.out)
          clear HB0_7 HB4_7 HOA_7 HOB_7 HOC_7 HVV_7 HVZ_7 HVO_7
          clear hb8
          obtain ⟨z0, z1, z2⟩ := rel_three HVZ_8.out
          have f0 := st_thaw HVZ_8.out 0
          have f1 := st_thaw HVZ_8.out 1
          have f2 := st_thaw HVZ_8.out 2
          have k_O_0 := (cell_of_row _ _ 0 _ _ _ HVO_8.out).trans rfl
          have k_O_1 := (cell_of_row _ _ 1 _ _ _ HVO_8.out).trans rfl
          have k_O_2 := (cell_of_row _ _ 2 _ _ _ HVO_8.out).trans rfl
          have hq : w.heap.size + 1 < w3.heap.size := by omega
          have HO3 := hid (show Own3 w.heap.size (((w8.setCell ⟨w.heap.size + 1, 0, none⟩ (.slice q1 is.length e1)).setCell ⟨w.heap.size + 1, 1, none⟩ (.slice q2 ask.length e2)).setCell ⟨w.heap.size + 1, 2, none⟩ (.slice q3 ts.length e3)) (.slice q1 is.length e1) (.slice q2 ask.length e2) (.slice q3 ts.length e3) is ask ts from
            ⟨own_base (rel_own HOA_8.out hq (rel_step _ _ _ _ _)) (by omega), own_base (rel_own HOB_8.out hq (rel_step _ _ _ _ _)) (by omega), own_base (rel_own HOC_8.out hq (rel_step _ _ _ _ _)) (by omega), HD.out.1, HD.out.2.1, HD.out.2.2⟩)
          go_wp2
          exact bodyPost_ret (v := .tuple #[.agg #[.slice q1 is.length e1, .slice q2 ask.length e2, .slice q3 ts.length e3], .int .i64 3]) (by simp [results, Tryd.results16, go_sem, z0, z1, z2]) rfl (ask_yes_no HR.out HZ.out (by decide) rfl (rel_below HB0_8.out (Nat.le_succ _) _ _ _) HO3.out)
        · rw [show decide (x.data.toList ∈ ts) = false from decide_eq_false m3] at CH3
          rw [if_neg (fun h => h.elim m2 m3)] at HA
          clear m2 m3
          have h30 := HPT.out.2.1.1
          by_cases hl : ask.length = 30
          · have HZ : Hid (askL ask ts x = 4) := hid (by rw [HA.out, if_pos (by omega)])
            have hlb : ((ask.length : Int) == 30) = true := by rw [hl]; rfl
            clear hl h30
            have k_V_0 := (cell_of_row _ _ 0 _ _ _ HVV_6.out).trans rfl
            have k_V_1 := (cell_of_row _ _ 1 _ _ _ HVV_6.out).trans rfl
            have k_V_2 := (cell_of_row _ _ 2 _ _ _ HVV_6.out).trans rfl
            go_wp2_with (go_at_call 89; refine (CH2.out _ (HFb.out.on HB0_6.out)).mono ?_; rintro e w7 ⟨rfl, hb7⟩; refine Hid.out ?_)
            refine hid ?_
            clear k_V_0 k_V_1 k_V_2
            have hz7 := hb7.size
            have HB0_7 := hid (HB0_6.out.trans (hb7.mono HB0_6.out.size))
            have HB4_7 := hid (HB4_6.out.trans (hb7.mono HB4_6.out.size))
            have HOA_7 := hid (own_below HOA_6.out hb7)
            have HOB_7 := hid (own_below HOB_6.out hb7)
            have HOC_7 := hid (own_below HOC_6.out hb7)
            have HVV_7 := hid ((hb7.block _ (by omega)).trans HVV_6.out)
            have HVZ_7 := hid ((hb7.block _ (by omega)).trans HVZ_6.out)
            have HVO_7 := hid ((hb7.block _ (by omega)).trans HVO_6.out)
            clear HB0_6 HB4_6 HOA_6 HOB_6 HOC_6 HVV_6 HVZ_6 HVO_6
            clear hb7
            have k_V_0 := (cell_of_row _ _ 0 _ _ _ HVV_7.out).trans rfl
            have k_V_1 := (cell_of_row _ _ 1 _ _ _ HVV_7.out).trans rfl
            have k_V_2 := (cell_of_row _ _ 2 _ _ _ HVV_7.out).trans rfl
            go_wp2_with (go_at_call 89; refine (CH3.out _ (HFc.out.on HB0_7.out)).mono ?_; rintro e w8 ⟨rfl, hb8⟩; refine Hid.out ?_)
            refine hid ?_
            clear k_V_0 k_V_1 k_V_2
            have hz8 := hb8.size
            have HB0_8 := hid (HB0_7.out.trans (hb8.mono HB0_7.out.size))
            have HB4_8 := hid (HB4_7.out.trans (hb8.mono HB4_7.out.size))
            have HOA_8 := hid (own_below HOA_7.out hb8)
            have HOB_8 := hid (own_below HOB_7.out hb8)
            have HOC_8 := hid (own_below HOC_7.out hb8)
            have HVV_8 := hid ((hb8.block _ (by omega)).trans HVV_7.out)
            have HVZ_8 := hid ((hb8.block _ (by omega)).trans HVZ_7.out)
            have HVO_8 := hid ((hb8.block _ (by omega)).trans HVO_7.out)
            clear HB0_7 HB4_7 HOA_7 HOB_7 HOC_7 HVV_7 HVZ_7 HVO_7
            clear hb8
            have k_V_0 := (cell_of_row _ _ 0 _ _ _ HVV_8.out).trans rfl
            have k_V_1 := (cell_of_row _ _ 1 _ _ _ HVV_8.out).trans rfl
            have k_V_2 := (cell_of_row _ _ 2 _ _ _ HVV_8.out).trans rfl
            obtain ⟨z0, z1, z2⟩ := rel_three HVZ_8.out
            have f0 := st_thaw HVZ_8.out 0
            have f1 := st_thaw HVZ_8.out 1
            have f2 := st_thaw HVZ_8.out 2
            have k_O_0 := (cell_of_row _ _ 0 _ _ _ HVO_8.out).trans rfl
            have k_O_1 := (cell_of_row _ _ 1 _ _ _ HVO_8.out).trans rfl
            have k_O_2 := (cell_of_row _ _ 2 _ _ _ HVO_8.out).trans rfl
            have hq : w.heap.size + 1 < w3.heap.size := by omega
            have HO3 := hid (show Own3 w.heap.size (((w8.setCell ⟨w.heap.size + 1, 0, none⟩ (.slice q1 is.length e1)).setCell ⟨w.heap.size + 1, 1, none⟩ (.slice q2 ask.length e2)).setCell ⟨w.heap.size + 1, 2, none⟩ (.slice q3 ts.length e3)) (.slice q1 is.length e1) (.slice q2 ask.length e2) (.slice q3 ts.length e3) is ask ts from
              ⟨own_base (rel_own HOA_8.out hq (rel_step _ _ _ _ _)) (by omega), own_base (rel_own HOB_8.out hq (rel_step _ _ _ _ _)) (by omega), own_base (rel_own HOC_8.out hq (rel_step _ _ _ _ _)) (by omega), HD.out.1, HD.out.2.1, HD.out.2.2⟩)
            go_wp2
            exact bodyPost_ret (v := .tuple #[.agg #[.slice q1 is.length e1, .slice q2 ask.length e2, .slice q3 ts.length e3], .int .i64 4]) (by simp [results, Tryd.results16, go_sem, z0, z1, z2]) rfl (ask_yes_no HR.out HZ.out (by decide) rfl (rel_below HB0_8.out (Nat.le_succ _) _ _ _) HO3.out)
          · have HZ : Hid (askL ask ts x = 0) := hid (by rw [HA.out, if_neg (by omega)])
            have hlb : ((ask.length : Int) == 30) = false := by rw [beq_eq_false_iff_ne]; omega
            clear hl h30
            have k_V_0 := (cell_of_row _ _ 0 _ _ _ HVV_6.out).trans rfl
            have k_V_1 := (cell_of_row _ _ 1 _ _ _ HVV_6.out).trans rfl
            have k_V_2 := (cell_of_row _ _ 2 _ _ _ HVV_6.out).trans rfl
            go_wp2_with (go_at_call 89; refine (CH2.out _ (HFb.out.on HB0_6.out)).mono ?_; rintro e w7 ⟨rfl, hb7⟩; refine Hid.out ?_)
            refine hid ?_
            clear k_V_0 k_V_1 k_V_2
            have hz7 := hb7.size
            have HB0_7 := hid (HB0_6.out.trans (hb7.mono HB0_6.out.size))
            have HB4_7 := hid (HB4_6.out.trans (hb7.mono HB4_6.out.size))
            have HOA_7 := hid (own_below HOA_6.out hb7)
            have HOB_7 := hid (own_below HOB_6.out hb7)
            have HOC_7 := hid (own_below HOC_6.out hb7)
            have HVV_7 := hid ((hb7.block _ (by omega)).trans HVV_6.out)
            have HVZ_7 := hid ((hb7.block _ (by omega)).trans HVZ_6.out)
            have HVO_7 := hid ((hb7.block _ (by omega)).trans HVO_6.out)
            clear HB0_6 HB4_6 HOA_6 HOB_6 HOC_6 HVV_6 HVZ_6 HVO_6
            clear hb7
            have k_V_0 := (cell_of_row _ _ 0 _ _ _ HVV_7.out).trans rfl
            have k_V_1 := (cell_of_row _ _ 1 _ _ _ HVV_7.out).trans rfl
            have k_V_2 := (cell_of_row _ _ 2 _ _ _ HVV_7.out).trans rfl
            go_wp2_with (go_at_call 89; refine (CH3.out _ (HFc.out.on HB0_7.out)).mono ?_; rintro e w8 ⟨rfl, hb8⟩; refine Hid.out ?_)
            refine hid ?_
            clear k_V_0 k_V_1 k_V_2
            have hz8 := hb8.size
            have HB0_8 := hid (HB0_7.out.trans (hb8.mono HB0_7.out.size))
            have HB4_8 := hid (HB4_7.out.trans (hb8.mono HB4_7.out.size))
            have HOA_8 := hid (own_below HOA_7.out hb8)
            have HOB_8 := hid (own_below HOB_7.out hb8)
            have HOC_8 := hid (own_below HOC_7.out hb8)
            have HVV_8 := hid ((hb8.block _ (by omega)).trans HVV_7.out)
            have HVZ_8 := hid ((hb8.block _ (by omega)).trans HVZ_7.out)
            have HVO_8 := hid ((hb8.block _ (by omega)).trans HVO_7.out)
            clear HB0_7 HB4_7 HOA_7 HOB_7 HOC_7 HVV_7 HVZ_7 HVO_7
            clear hb8
            have k_V_0 := (cell_of_row _ _ 0 _ _ _ HVV_8.out).trans rfl
            have k_V_1 := (cell_of_row _ _ 1 _ _ _ HVV_8.out).trans rfl
            have k_V_2 := (cell_of_row _ _ 2 _ _ _ HVV_8.out).trans rfl
            have k_O_0 := (cell_of_row _ _ 0 _ _ _ HVO_8.out).trans rfl
            have k_O_1 := (cell_of_row _ _ 1 _ _ _ HVO_8.out).trans rfl
            have k_O_2 := (cell_of_row _ _ 2 _ _ _ HVO_8.out).trans rfl
            go_wp2_with (at_builtin; refine wp_append_str rfl _ _ rfl w3.heap.size _ _ _ rfl (HOB_8.out.alloc _) ⟨w8.heap.size, 0, none⟩ 1 x rfl ?c1 ?c2 ?c3 ?_)
            case c1 => exact (cell_of_row _ _ 0 _ _ _ (heap_alloc_new w8 _)).trans rfl
            case c2 => omega
            case c3 => first | omega | (simp; done) | (simp; omega)
            intro v9 x9 ho9 hg9 hv9
            refine Hid.out ?_
            refine hid ?_
            clear k_V_0 k_V_1 k_V_2 k_O_0 k_O_1 k_O_2
            have hza : w8.heap.size < (w8.alloc (.cells #[.string x] 9)).heap.size := by simp
            have hz9 := Nat.lt_of_lt_of_le hza hg9.size
            have hbA : Below w8.heap.size w8 (w8.alloc (.cells #[.string x] 9)) := (Below.refl _ _).alloc (Nat.le_refl _) _
            have RA := hid (kept_grown (own_below HOA_8.out hbA) hg9 HD.out.1)
            have RC := hid (kept_grown (own_below HOC_8.out hbA) hg9 HD.out.2.2.symm)
            have HB9 := hid ((HB0_8.out.trans (hbA.mono HB0_8.out.size)).grown hg9 (by simp; omega) (fun k hk => by have := (HLB.out k hk).1; omega))
            have HZ9 := hid ((hg9.block (w.heap.size + 1) (by simp; omega) (fun e => by have := (HLB.out _ e.symm).1; omega)).trans ((hbA.block _ (by omega)).trans HVZ_8.out))
            have HO9 := hid ((hg9.block w4.heap.size (by simp; omega) (fun e => by have := (HLB.out _ e.symm).2; omega)).trans ((hbA.block _ (by omega)).trans HVO_8.out))
            obtain ⟨q9, e9, rfl⟩ := touch_slice ho9
            have HT9 := hid (texts_of (ps := ask ++ [x.data.toList]) (by
              have e1 : (ask ++ [x.data.toList]).length = ask.length + 1 := by simp
              have e2 : strs (ask ++ [x.data.toList]) = strs ask ++ [.string x] := by
                unfold strs
                rw [List.map_append]
                congr 1
              rw [e1, e2]
              exact ho9))
            have CRI := hid (rising_calls (ask ++ [x.data.toList]) (by have := HPT.out.2.1.1; simp; omega) _ x9 HT9.out)
            clear hg9 hv9 ho9 hbA hza HOA_8 HOB_8 HOC_8 HVO_8 HVZ_8 HB0_8
            go_wp2_with (go_at_call 90; refine CRI.out.mono ?_; rintro e xa ⟨sv, qs, rfl, hba, hoa, hra, hma, hla⟩; refine Hid.out ?_)
            refine hid ?_
            obtain ⟨qa, ea, rfl⟩ := touch_slice hoa
            have HBA := hid (HB9.out.trans (hba.mono HB9.out.size))
            have HZA := hid ((hba.block _ (by omega)).trans HZ9.out)
            have HOA := hid ((hba.block _ (by omega)).trans HO9.out)
            have hzA := hba.size
            have hq3 : w.heap.size + 1 < w3.heap.size := by omega
            have RA2 := hid (own_below RA.out hba)
            have RC2 := hid (own_below RC.out hba)
            have RQ := hid hoa
            have HQ := hid (And.intro hra hma)
            have HDA := hid (show ApartV (.slice q1 is.length e1) (.slice qa qs.length ea) from fun j k hj hk => by have a := (RA.out.lt j hj).2; have b := (hoa.lt k hk).1; omega)
            have HDC := hid (show ApartV (.slice qa qs.length ea) (.slice q3 ts.length e3) from fun j k hj hk => by have a := (RC.out.lt k hk).2; have b := (hoa.lt j hj).1; omega)
            clear hba hoa hra hma hla RA RC HZ9 HO9 HB9
            obtain ⟨o0, o1, o2⟩ := rel_three HOA.out
            have g1 := st_thaw HOA.out 1
            obtain ⟨z0, z1, z2⟩ := rel_three HZA.out
            have f0 := st_thaw HZA.out 0
            have f1 := st_thaw HZA.out 1
            have f2 := st_thaw HZA.out 2
            have hne : w4.heap.size ≠ w.heap.size + 1 := by omega
            have HSB : Hid (Step w4.heap.size xa (xa.setCell ⟨w4.heap.size, 1, none⟩ (.slice qa qs.length ea))) := hid ((Step.refl _ _).setCell 1 _)
            have HOB : Hid ((xa.setCell ⟨w4.heap.size, 1, none⟩ (.slice qa qs.length ea)).heap[w4.heap.size]? = some (.cells #[.slice q1 is.length e1, .slice qa qs.length ea, .slice q3 ts.length e3] 26)) := hid (heap_setCell_same _ w4.heap.size 1 _ _ _ HOA.out)
            have HZB := hid ((HSB.out.block (w.heap.size + 1) (by have := (Array.getElem?_eq_some_iff.1 HZA.out).1; omega) (by omega)).trans HZA.out)
            have HBB : Hid (Below w.heap.size w (xa.setCell ⟨w4.heap.size, 1, none⟩ (.slice qa qs.length ea))) := hid (HBA.out.setCell (p := ⟨w4.heap.size, 1, none⟩) (by show w.heap.size ≤ w4.heap.size; omega) _)
            have hz4 : w4.heap.size < x9.heap.size := by omega
            have SA := hid (rel_own2 RA2.out (fun k hk => by have := (HLA.out k hk).2; omega) HSB.out)
            have SC := hid (rel_own2 RC2.out (fun k hk => by have := (HLC.out k hk).2; omega) HSB.out)
            have SQ := hid (rel_own RQ.out hz4 HSB.out)
            obtain ⟨y0, y1, y2⟩ := rel_three HOB.out
            obtain ⟨u0, u1, u2⟩ := rel_three HZB.out
            have t0 := st_thaw HZB.out 0
            have t1 := st_thaw HZB.out 1
            have t2 := st_thaw HZB.out 2
            have HO3 := hid (show Own3 w.heap.size ((((xa.setCell ⟨w4.heap.size, 1, none⟩ (.slice qa qs.length ea)).setCell ⟨w.heap.size + 1, 0, none⟩ (.slice q1 is.length e1)).setCell ⟨w.heap.size + 1, 1, none⟩ (.slice qa qs.length ea)).setCell ⟨w.heap.size + 1, 2, none⟩ (.slice q3 ts.length e3)) (.slice q1 is.length e1) (.slice qa qs.length ea) (.slice q3 ts.length e3) is qs ts from
              ⟨own_base (rel_own SA.out hq3 (rel_step _ _ _ _ _)) (by omega), own_base (rel_own SQ.out (by omega) (rel_step _ _ _ _ _)) (by omega), own_base (rel_own SC.out hq3 (rel_step _ _ _ _ _)) (by omega), HDA.out, HD.out.2.1, HDC.out⟩)
            clear SA SC SQ
            go_wp2
            exact bodyPost_ret (v := .tuple #[.agg #[.slice q1 is.length e1, .slice qa qs.length ea, .slice q3 ts.length e3], .int .i64 0]) (by simp [results, Tryd.results16, go_sem, u0, u1, u2]) rfl (ask_yes_in HR.out HZ.out HQ.out rfl (rel_below HBB.out (Nat.le_succ _) _ _ _) HO3.out)
end Go.Proofs.YtedbhlihdfaaaaaDoor
