/- RelyingOk, the program's: one that relies, opened. -/
import Derived.Test.YtkpieeakiolomaaDoorRelImpl
import Derived.Test.YtkpieeakiolomaaDoorStRelying
namespace Go.Proofs.YtkpieeakiolomaaDoor
open Go.RowKit Go.Maps
open Go.Lib (hid)

theorem rread_any (ps : List (List UInt8)) (hm : ps.length ≤ 1048576) (hs : ∀ p ∈ ps, p.length ≤ 9223372036854775807) (most : Nat) (hmost : most ≤ 1048575) (b : Value) (w : World) (hb : TextsAt w b ps) (hT : Tab w) (hG : 0 < w.heap.size) :
    Calls Tryd.prog 102 #[b, .int .i64 most] w fun e w' => ∃ mv, e = .returned (.tuple #[.map mv, .bool (someB ps most)]) ∧ Below w.heap.size w w' :=
  (rread_calls Unit ps hm hs most hmost b w hb hT hG).mono fun e w' h => by
    unfold RisPost at h
    rcases h with ⟨hb, ⟨hy, he⟩ | ⟨hy, s, he, _, _⟩⟩
    · exact ⟨none, by rw [hy]; exact he, hb⟩
    · exact ⟨some s, by rw [hy]; exact he, hb⟩

theorem rel_order (x1 x2 x3 pb : Bool) : ((x1 && (x2 && x3)) && pb) = (((x1 && pb) && x2) && x3) := by cases x1 <;> cases x2 <;> cases x3 <;> cases pb <;> rfl

theorem below_three {B b : Nat} {w W : World} (h : Below B w W) (hb : B ≤ b) (x0 x1 x2 : Value) : Below B w (((W.setCell ⟨b, 0, none⟩ x0).setCell ⟨b, 1, none⟩ x1).setCell ⟨b, 2, none⟩ x2) :=
  ((h.setCell (p := ⟨b, 0, none⟩) hb _).setCell (p := ⟨b, 1, none⟩) hb _).setCell (p := ⟨b, 2, none⟩) hb _

set_option maxRecDepth 20000 in
set_option maxHeartbeats 4000000 in
theorem openRel_calls (is ask ts : List (List UInt8)) (n1 : is.length ≤ 1048576) (s1 : ∀ p ∈ is, p.length ≤ 9223372036854775807) (n2 : ask.length ≤ 1048576) (s2 : ∀ p ∈ ask, p.length ≤ 9223372036854775807) (n3 : ts.length ≤ 1048576) (s3 : ∀ p ∈ ts, p.length ≤ 9223372036854775807) (a1 a2 a3 : Value) (w : World) (h1 : TextsAt w a1 is) (h2 : TextsAt w a2 ask) (h3 : TextsAt w a3 ts) (hT : Tab w) (hG : 0 < w.heap.size) :
    Calls Tryd.prog 54 #[.agg #[a1, a2, a3]] w fun e w' => ∃ m1 m2 m3, e = .returned (.tuple #[.agg #[.map m1, .map m2, .map m3], .bool (relB is ask ts)]) ∧ Below w.heap.size w w' := by
  have HFa := hid h1
  have HFb := hid h2
  have HFc := hid h3
  have HTAB := hid hT
  have C1 := hid (fun W x hT hG => iss_calls is n1 s1 a1 W x hT hG)
  have C2 := hid (fun W x hT hG => rread_any ask n2 s2 30 (by omega) a2 W x hT hG)
  have C3 := hid (fun W x hT hG => rread_any ts n3 s3 200 (by omega) a3 W x hT hG)
  have HR : Hid (relB is ask ts = (((someB is 8 && pubsB is is.length) && someB ask 30) && someB ts 200)) := hid (rel_order _ _ _ _)
  obtain ⟨p, c, rfl, t1⟩ := h1
  obtain ⟨q, d, rfl, t2⟩ := h2
  obtain ⟨u, v, rfl, t3⟩ := h3
  clear t1 t2 t3 n1 n2 n3 s1 s2 s3 hT
  generalize relB is ask ts = r at *
  generalize (someB is 8 && pubsB is is.length) = x1 at *
  generalize someB ask 30 = x2 at *
  generalize someB ts 200 = x3 at *
  have HB0_0 : Hid (Below w.heap.size w w) := hid (Below.refl _ _)
  have hz0 : w.heap.size ≤ w.heap.size := Nat.le_refl _
  obtain ⟨w1, hw1⟩ : ∃ W, W = w.alloc (.cells #[.slice p is.length c, .slice q ask.length d, .slice u ts.length v] 26) := ⟨_, rfl⟩
  have hb1 : Below w.heap.size w w1 := by rw [hw1]; exact (Below.refl _ _).alloc (Nat.le_refl _) _
  have hz1 : w.heap.size < w1.heap.size := by rw [hw1]; simp
  have HVV_1 : Hid (w1.heap[w.heap.size]? = some (.cells #[.slice p is.length c, .slice q ask.length d, .slice u ts.length v] 26)) := hid (by rw [hw1]; exact heap_alloc_new _ _)
  have HW1 := hid hw1
  have HB0_1 := hid (HB0_0.out.trans (hb1.mono HB0_0.out.size))
  clear hw1 hb1
  obtain ⟨w2, hw2⟩ : ∃ W, W = w1.alloc (.cells #[.map none, .map none, .map none] 95) := ⟨_, rfl⟩
  have hb2 : Below w1.heap.size w1 w2 := by rw [hw2]; exact (Below.refl _ _).alloc (Nat.le_refl _) _
  have hz2 : w1.heap.size < w2.heap.size := by rw [hw2]; simp
  have HVZ_2 : Hid (w2.heap[w1.heap.size]? = some (.cells #[.map none, .map none, .map none] 95)) := hid (by rw [hw2]; exact heap_alloc_new _ _)
  have HW2 := hid hw2
  have HB0_2 := hid (HB0_1.out.trans (hb2.mono HB0_1.out.size))
  have HVV_2 := hid ((hb2.block _ (by omega)).trans HVV_1.out)
  clear HB0_1
  clear hw2 hb2
  have hzL : w1.heap.size = w.heap.size + 1 := by rw [HW1.out]; simp
  have hzL2 : w.heap.size + 1 < w2.heap.size := by omega
  rw [hzL] at HVZ_2
  clear hzL
  cases x1 with
  | false =>
    go_enter Tryd.func54, Tryd.ntmps54
    go_wp2_with (go_at_call 101; rw [← HW1.out]; rw [← HW2.out]; refine (C1.out _ (HFa.out.on HB0_2.out) (tab_on HTAB.out hG HB0_2.out) (Nat.lt_of_lt_of_le hG HB0_2.out.size)).mono ?_; rintro e w3 ⟨m1, rfl, hb3⟩; refine Hid.out ?_)
    refine hid ?_
    clear HVV_1
    have hz3 := hb3.size
    have HB0_3 := hid (HB0_2.out.trans (hb3.mono HB0_2.out.size))
    have HVV_3 := hid ((hb3.block _ (by omega)).trans HVV_2.out)
    have HVZ_3 := hid ((hb3.block _ (by omega)).trans HVZ_2.out)
    clear HB0_2 HVV_2 HVZ_2
    clear hb3
    have k_V_0 := (cell_of_row _ _ 0 _ _ _ HVV_3.out).trans rfl
    have k_V_1 := (cell_of_row _ _ 1 _ _ _ HVV_3.out).trans rfl
    have k_V_2 := (cell_of_row _ _ 2 _ _ _ HVV_3.out).trans rfl
    go_wp2_with (go_at_call 102; refine (C2.out _ (HFb.out.on HB0_3.out) (tab_on HTAB.out hG HB0_3.out) (Nat.lt_of_lt_of_le hG HB0_3.out.size)).mono ?_; rintro e w4 ⟨m2, rfl, hb4⟩; refine Hid.out ?_)
    refine hid ?_
    clear k_V_0 k_V_1 k_V_2
    have hz4 := hb4.size
    have HB0_4 := hid (HB0_3.out.trans (hb4.mono HB0_3.out.size))
    have HVV_4 := hid ((hb4.block _ (by omega)).trans HVV_3.out)
    have HVZ_4 := hid ((hb4.block _ (by omega)).trans HVZ_3.out)
    clear HB0_3 HVV_3 HVZ_3
    clear hb4
    have k_V_0 := (cell_of_row _ _ 0 _ _ _ HVV_4.out).trans rfl
    have k_V_1 := (cell_of_row _ _ 1 _ _ _ HVV_4.out).trans rfl
    have k_V_2 := (cell_of_row _ _ 2 _ _ _ HVV_4.out).trans rfl
    go_wp2_with (go_at_call 102; refine (C3.out _ (HFc.out.on HB0_4.out) (tab_on HTAB.out hG HB0_4.out) (Nat.lt_of_lt_of_le hG HB0_4.out.size)).mono ?_; rintro e w5 ⟨m3, rfl, hb5⟩; refine Hid.out ?_)
    refine hid ?_
    clear k_V_0 k_V_1 k_V_2
    have hz5 := hb5.size
    have HB0_5 := hid (HB0_4.out.trans (hb5.mono HB0_4.out.size))
    have HVV_5 := hid ((hb5.block _ (by omega)).trans HVV_4.out)
    have HVZ_5 := hid ((hb5.block _ (by omega)).trans HVZ_4.out)
    clear HB0_4 HVV_4 HVZ_4
    clear hb5
    obtain ⟨z0, z1, z2⟩ := three_refs HVZ_5.out
    have f0 := st_thaw HVZ_5.out 0
    have f1 := st_thaw HVZ_5.out 1
    have f2 := st_thaw HVZ_5.out 2
    go_wp2
    exact bodyPost_ret (v := .tuple #[.agg #[.map none, .map none, .map none], .bool false]) (by simp [results, Tryd.results54, go_sem, z0, z1, z2]) rfl ⟨none, none, none, by rw [HR.out] <;> rfl, below_three HB0_5.out (Nat.le_succ _) _ _ _⟩
  | true =>
    cases x2 with
    | false =>
      go_enter Tryd.func54, Tryd.ntmps54
      go_wp2_with (go_at_call 101; rw [← HW1.out]; rw [← HW2.out]; refine (C1.out _ (HFa.out.on HB0_2.out) (tab_on HTAB.out hG HB0_2.out) (Nat.lt_of_lt_of_le hG HB0_2.out.size)).mono ?_; rintro e w3 ⟨m1, rfl, hb3⟩; refine Hid.out ?_)
      refine hid ?_
      clear HVV_1
      have hz3 := hb3.size
      have HB0_3 := hid (HB0_2.out.trans (hb3.mono HB0_2.out.size))
      have HVV_3 := hid ((hb3.block _ (by omega)).trans HVV_2.out)
      have HVZ_3 := hid ((hb3.block _ (by omega)).trans HVZ_2.out)
      clear HB0_2 HVV_2 HVZ_2
      clear hb3
      have k_V_0 := (cell_of_row _ _ 0 _ _ _ HVV_3.out).trans rfl
      have k_V_1 := (cell_of_row _ _ 1 _ _ _ HVV_3.out).trans rfl
      have k_V_2 := (cell_of_row _ _ 2 _ _ _ HVV_3.out).trans rfl
      go_wp2_with (go_at_call 102; refine (C2.out _ (HFb.out.on HB0_3.out) (tab_on HTAB.out hG HB0_3.out) (Nat.lt_of_lt_of_le hG HB0_3.out.size)).mono ?_; rintro e w4 ⟨m2, rfl, hb4⟩; refine Hid.out ?_)
      refine hid ?_
      clear k_V_0 k_V_1 k_V_2
      have hz4 := hb4.size
      have HB0_4 := hid (HB0_3.out.trans (hb4.mono HB0_3.out.size))
      have HVV_4 := hid ((hb4.block _ (by omega)).trans HVV_3.out)
      have HVZ_4 := hid ((hb4.block _ (by omega)).trans HVZ_3.out)
      clear HB0_3 HVV_3 HVZ_3
      clear hb4
      have k_V_0 := (cell_of_row _ _ 0 _ _ _ HVV_4.out).trans rfl
      have k_V_1 := (cell_of_row _ _ 1 _ _ _ HVV_4.out).trans rfl
      have k_V_2 := (cell_of_row _ _ 2 _ _ _ HVV_4.out).trans rfl
      go_wp2_with (go_at_call 102; refine (C3.out _ (HFc.out.on HB0_4.out) (tab_on HTAB.out hG HB0_4.out) (Nat.lt_of_lt_of_le hG HB0_4.out.size)).mono ?_; rintro e w5 ⟨m3, rfl, hb5⟩; refine Hid.out ?_)
      refine hid ?_
      clear k_V_0 k_V_1 k_V_2
      have hz5 := hb5.size
      have HB0_5 := hid (HB0_4.out.trans (hb5.mono HB0_4.out.size))
      have HVV_5 := hid ((hb5.block _ (by omega)).trans HVV_4.out)
      have HVZ_5 := hid ((hb5.block _ (by omega)).trans HVZ_4.out)
      clear HB0_4 HVV_4 HVZ_4
      clear hb5
      obtain ⟨z0, z1, z2⟩ := three_refs HVZ_5.out
      have f0 := st_thaw HVZ_5.out 0
      have f1 := st_thaw HVZ_5.out 1
      have f2 := st_thaw HVZ_5.out 2
      go_wp2
      exact bodyPost_ret (v := .tuple #[.agg #[.map none, .map none, .map none], .bool false]) (by simp [results, Tryd.results54, go_sem, z0, z1, z2]) rfl ⟨none, none, none, by rw [HR.out] <;> rfl, below_three HB0_5.out (Nat.le_succ _) _ _ _⟩
    | true =>
      cases x3 with
      | false =>
        go_enter Tryd.func54, Tryd.ntmps54
        go_wp2_with (go_at_call 101; rw [← HW1.out]; rw [← HW2.out]; refine (C1.out _ (HFa.out.on HB0_2.out) (tab_on HTAB.out hG HB0_2.out) (Nat.lt_of_lt_of_le hG HB0_2.out.size)).mono ?_; rintro e w3 ⟨m1, rfl, hb3⟩; refine Hid.out ?_)
        refine hid ?_
        clear HVV_1
        have hz3 := hb3.size
        have HB0_3 := hid (HB0_2.out.trans (hb3.mono HB0_2.out.size))
        have HVV_3 := hid ((hb3.block _ (by omega)).trans HVV_2.out)
        have HVZ_3 := hid ((hb3.block _ (by omega)).trans HVZ_2.out)
        clear HB0_2 HVV_2 HVZ_2
        clear hb3
        have k_V_0 := (cell_of_row _ _ 0 _ _ _ HVV_3.out).trans rfl
        have k_V_1 := (cell_of_row _ _ 1 _ _ _ HVV_3.out).trans rfl
        have k_V_2 := (cell_of_row _ _ 2 _ _ _ HVV_3.out).trans rfl
        go_wp2_with (go_at_call 102; refine (C2.out _ (HFb.out.on HB0_3.out) (tab_on HTAB.out hG HB0_3.out) (Nat.lt_of_lt_of_le hG HB0_3.out.size)).mono ?_; rintro e w4 ⟨m2, rfl, hb4⟩; refine Hid.out ?_)
        refine hid ?_
        clear k_V_0 k_V_1 k_V_2
        have hz4 := hb4.size
        have HB0_4 := hid (HB0_3.out.trans (hb4.mono HB0_3.out.size))
        have HVV_4 := hid ((hb4.block _ (by omega)).trans HVV_3.out)
        have HVZ_4 := hid ((hb4.block _ (by omega)).trans HVZ_3.out)
        clear HB0_3 HVV_3 HVZ_3
        clear hb4
        have k_V_0 := (cell_of_row _ _ 0 _ _ _ HVV_4.out).trans rfl
        have k_V_1 := (cell_of_row _ _ 1 _ _ _ HVV_4.out).trans rfl
        have k_V_2 := (cell_of_row _ _ 2 _ _ _ HVV_4.out).trans rfl
        go_wp2_with (go_at_call 102; refine (C3.out _ (HFc.out.on HB0_4.out) (tab_on HTAB.out hG HB0_4.out) (Nat.lt_of_lt_of_le hG HB0_4.out.size)).mono ?_; rintro e w5 ⟨m3, rfl, hb5⟩; refine Hid.out ?_)
        refine hid ?_
        clear k_V_0 k_V_1 k_V_2
        have hz5 := hb5.size
        have HB0_5 := hid (HB0_4.out.trans (hb5.mono HB0_4.out.size))
        have HVV_5 := hid ((hb5.block _ (by omega)).trans HVV_4.out)
        have HVZ_5 := hid ((hb5.block _ (by omega)).trans HVZ_4.out)
        clear HB0_4 HVV_4 HVZ_4
        clear hb5
        obtain ⟨z0, z1, z2⟩ := three_refs HVZ_5.out
        have f0 := st_thaw HVZ_5.out 0
        have f1 := st_thaw HVZ_5.out 1
        have f2 := st_thaw HVZ_5.out 2
        go_wp2
        exact bodyPost_ret (v := .tuple #[.agg #[.map none, .map none, .map none], .bool false]) (by simp [results, Tryd.results54, go_sem, z0, z1, z2]) rfl ⟨none, none, none, by rw [HR.out] <;> rfl, below_three HB0_5.out (Nat.le_succ _) _ _ _⟩
      | true =>
        go_enter Tryd.func54, Tryd.ntmps54
        go_wp2_with (go_at_call 101; rw [← HW1.out]; rw [← HW2.out]; refine (C1.out _ (HFa.out.on HB0_2.out) (tab_on HTAB.out hG HB0_2.out) (Nat.lt_of_lt_of_le hG HB0_2.out.size)).mono ?_; rintro e w3 ⟨m1, rfl, hb3⟩; refine Hid.out ?_)
        refine hid ?_
        clear HVV_1
        have hz3 := hb3.size
        have HB0_3 := hid (HB0_2.out.trans (hb3.mono HB0_2.out.size))
        have HVV_3 := hid ((hb3.block _ (by omega)).trans HVV_2.out)
        have HVZ_3 := hid ((hb3.block _ (by omega)).trans HVZ_2.out)
        clear HB0_2 HVV_2 HVZ_2
        clear hb3
        have k_V_0 := (cell_of_row _ _ 0 _ _ _ HVV_3.out).trans rfl
        have k_V_1 := (cell_of_row _ _ 1 _ _ _ HVV_3.out).trans rfl
        have k_V_2 := (cell_of_row _ _ 2 _ _ _ HVV_3.out).trans rfl
        go_wp2_with (go_at_call 102; refine (C2.out _ (HFb.out.on HB0_3.out) (tab_on HTAB.out hG HB0_3.out) (Nat.lt_of_lt_of_le hG HB0_3.out.size)).mono ?_; rintro e w4 ⟨m2, rfl, hb4⟩; refine Hid.out ?_)
        refine hid ?_
        clear k_V_0 k_V_1 k_V_2
        have hz4 := hb4.size
        have HB0_4 := hid (HB0_3.out.trans (hb4.mono HB0_3.out.size))
        have HVV_4 := hid ((hb4.block _ (by omega)).trans HVV_3.out)
        have HVZ_4 := hid ((hb4.block _ (by omega)).trans HVZ_3.out)
        clear HB0_3 HVV_3 HVZ_3
        clear hb4
        have k_V_0 := (cell_of_row _ _ 0 _ _ _ HVV_4.out).trans rfl
        have k_V_1 := (cell_of_row _ _ 1 _ _ _ HVV_4.out).trans rfl
        have k_V_2 := (cell_of_row _ _ 2 _ _ _ HVV_4.out).trans rfl
        go_wp2_with (go_at_call 102; refine (C3.out _ (HFc.out.on HB0_4.out) (tab_on HTAB.out hG HB0_4.out) (Nat.lt_of_lt_of_le hG HB0_4.out.size)).mono ?_; rintro e w5 ⟨m3, rfl, hb5⟩; refine Hid.out ?_)
        refine hid ?_
        clear k_V_0 k_V_1 k_V_2
        have hz5 := hb5.size
        have HB0_5 := hid (HB0_4.out.trans (hb5.mono HB0_4.out.size))
        have HVV_5 := hid ((hb5.block _ (by omega)).trans HVV_4.out)
        have HVZ_5 := hid ((hb5.block _ (by omega)).trans HVZ_4.out)
        clear HB0_4 HVV_4 HVZ_4
        clear hb5
        obtain ⟨z0, z1, z2⟩ := three_refs HVZ_5.out
        have f0 := st_thaw HVZ_5.out 0
        have f1 := st_thaw HVZ_5.out 1
        have f2 := st_thaw HVZ_5.out 2
        go_wp2
        exact bodyPost_ret (v := .tuple #[.agg #[.map m1, .map m2, .map m3], .bool true]) (by simp [results, Tryd.results54, go_sem, z0, z1, z2]) rfl ⟨m1, m2, m3, by rw [HR.out] <;> rfl, below_three HB0_5.out (Nat.le_succ _) _ _ _⟩

set_option maxRecDepth 20000 in
set_option maxHeartbeats 4000000 in
theorem rel_impl (is ask ts : List (List UInt8)) (n1 : is.length ≤ 1048576) (s1 : ∀ p ∈ is, p.length ≤ 9223372036854775807) (n2 : ask.length ≤ 1048576) (s2 : ∀ p ∈ ask, p.length ≤ 9223372036854775807) (n3 : ts.length ≤ 1048576) (s3 : ∀ p ∈ ts, p.length ≤ 9223372036854775807) (a1 a2 a3 : Value) (w : World) (h1 : TextsAt w a1 is) (h2 : TextsAt w a2 ask) (h3 : TextsAt w a3 ts) (hT : Tab w) (hG : 0 < w.heap.size) :
    Calls Tryd.prog 17 #[.agg #[a1, a2, a3]] w fun e w' => e = .returned (.bool (relB is ask ts)) ∧ Below w.heap.size w w' := by
  have HFa := hid h1
  have HFb := hid h2
  have HFc := hid h3
  have HTAB := hid hT
  have CO := hid (fun W x1 x2 x3 hT hG => openRel_calls is ask ts n1 s1 n2 s2 n3 s3 a1 a2 a3 W x1 x2 x3 hT hG)
  obtain ⟨p, c, rfl, t1⟩ := h1
  obtain ⟨q, d, rfl, t2⟩ := h2
  obtain ⟨u, v, rfl, t3⟩ := h3
  clear t1 t2 t3 n1 n2 n3 s1 s2 s3 hT
  generalize relB is ask ts = r at *
  have HB0_0 : Hid (Below w.heap.size w w) := hid (Below.refl _ _)
  have hz0 : w.heap.size ≤ w.heap.size := Nat.le_refl _
  obtain ⟨w1, hw1⟩ : ∃ W, W = w.alloc (.cells #[.slice p is.length c, .slice q ask.length d, .slice u ts.length v] 26) := ⟨_, rfl⟩
  have hb1 : Below w.heap.size w w1 := by rw [hw1]; exact (Below.refl _ _).alloc (Nat.le_refl _) _
  have hz1 : w.heap.size < w1.heap.size := by rw [hw1]; simp
  have HVV_1 : Hid (w1.heap[w.heap.size]? = some (.cells #[.slice p is.length c, .slice q ask.length d, .slice u ts.length v] 26)) := hid (by rw [hw1]; exact heap_alloc_new _ _)
  have HW1 := hid hw1
  have HB0_1 := hid (HB0_0.out.trans (hb1.mono HB0_0.out.size))
  clear hw1 hb1
  go_enter Tryd.func17, Tryd.ntmps17
  go_wp2_with (go_at_call 54; rw [← HW1.out]; refine (CO.out _ (HFa.out.on HB0_1.out) (HFb.out.on HB0_1.out) (HFc.out.on HB0_1.out) (tab_on HTAB.out hG HB0_1.out) (Nat.lt_of_lt_of_le hG HB0_1.out.size)).mono ?_; rintro e w2 ⟨m1, m2, m3, rfl, hb2⟩; refine Hid.out ?_)
  refine hid ?_
  have hz2 := hb2.size
  have HB0_2 := hid (HB0_1.out.trans (hb2.mono HB0_1.out.size))
  have HVV_2 := hid ((hb2.block _ (by omega)).trans HVV_1.out)
  clear HB0_1 HVV_1
  clear hb2
  go_wp2
  go_ret
  first | exact ⟨rfl, HB0_2.out⟩ | exact ⟨rfl, HB0_2.out.alloc HB0_2.out.size _⟩
end Go.Proofs.YtkpieeakiolomaaDoor
