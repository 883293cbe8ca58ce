/- RelyingOk, the program's: one that relies, opened. -/
import Derived.Test.YtjaaplcgphlccaaGreatDoorPackRelI
import Derived.Test.YtjaaplcgphlccaaGreatDoorStRelying
namespace Go.Proofs.YtjaaplcgphlccaaGreatDoor
open Go.RowKit Go.Maps
open Go.Lib (hid)

/-- A set, told by the program's map. -/
def SetIn (lo hi : Nat) (w : World) (mv : Option Nat) (ps : List (List UInt8)) : Prop := ∃ s, mv = some s ∧ lo ≤ s ∧ s < hi ∧ w.ownsMap Tryz.prog 9 (unitElem (H := Unit)) s ps.length (setD ps)

theorem SetIn.on {lo hi : Nat} {w w' : World} {mv : Option Nat} {ps : List (List UInt8)} (h : SetIn lo hi w mv ps) (hb : Below w.heap.size w w') : SetIn lo hi w' mv ps := by
  obtain ⟨s, h1, h2, h3, h4⟩ := h
  exact ⟨s, h1, h2, h3, h4.kept (grown_below (row := none) hb) (by simp)⟩

theorem rread_any (ps : List (List UInt8)) (hm : ps.length ≤ 1048576) (hs : ∀ p ∈ ps, p.length ≤ 9223372036854775807) (most : Nat) (hmost : most ≤ 1048575) (b : Value) (w : World) (hb : TextsAt w b ps) (hT : Tab w) (hG : 0 < w.heap.size) :
    Calls Tryz.prog 52 #[b, .int .i64 most] w fun e w' => ∃ mv, e = .returned (.tuple #[.map mv, .bool (someB ps most)]) ∧ Below w.heap.size w w' ∧ Hid (someB ps most = true → SetIn w.heap.size w'.heap.size w' mv ps) :=
  (rread_calls Unit ps hm hs most hmost b w hb hT hG).mono fun e w' h => by
    unfold RisPost at h
    rcases h with ⟨hb, ⟨hy, he⟩ | ⟨hy, s, he, hs, ho⟩⟩
    · exact ⟨none, by rw [hy]; exact he, hb, hid (fun h => by rw [hy] at h; cases h)⟩
    · exact ⟨some s, by rw [hy]; exact he, hb, hid (fun _ => ⟨s, rfl, hs, ho.lt, ho⟩)⟩

theorem iss_any (ps : List (List UInt8)) (hm : ps.length ≤ 1048576) (hs : ∀ p ∈ ps, p.length ≤ 9223372036854775807) (b : Value) (w : World) (hb : TextsAt w b ps) (hT : Tab w) (hG : 0 < w.heap.size) :
    Calls Tryz.prog 51 #[b] w fun e w' => ∃ mv, e = .returned (.tuple #[.map mv, .bool (someB ps 8 && pubsB ps ps.length)]) ∧ Below w.heap.size w w' ∧ Hid ((someB ps 8 && pubsB ps ps.length) = true → SetIn w.heap.size w'.heap.size w' mv ps) :=
  (iss_calls ps hm hs b w hb hT hG).mono fun e w' h => by
    unfold IssPost at h
    obtain ⟨mv, he, hb, hm⟩ := h
    exact ⟨mv, he, hb, hid (fun h => by
      obtain ⟨s, h1, h2, h3⟩ := hm (Bool.and_eq_true_iff.1 h).1
      exact ⟨s, h1, h2, h3.lt, h3⟩)⟩

/-- What opening answers: right or not, and then three sets apart. -/
def RelPost (is ask ts : List (List UInt8)) (w : World) (e : Ending) (w' : World) : Prop :=
  ∃ m1 m2 m3, e = .returned (.tuple #[.agg #[.map m1, .map m2, .map m3], .bool (relB is ask ts)]) ∧ Below w.heap.size w w' ∧ (relB is ask ts = true → ∃ s1 s2 s3, m1 = some s1 ∧ m2 = some s2 ∧ m3 = some s3 ∧ (w.heap.size ≤ s1 ∧ s1 < s2 ∧ s2 < s3) ∧
    w'.ownsMap Tryz.prog 9 (unitElem (H := Unit)) s1 is.length (setD is) ∧ w'.ownsMap Tryz.prog 9 (unitElem (H := Unit)) s2 ask.length (setD ask) ∧ w'.ownsMap Tryz.prog 9 (unitElem (H := Unit)) s3 ts.length (setD ts))

theorem relp_no {is ask ts : List (List UInt8)} {w w' : World} {e : Ending} {m1 m2 m3 : Option Nat} (hr : relB is ask ts = false) (he : e = .returned (.tuple #[.agg #[.map m1, .map m2, .map m3], .bool false])) (hb : Below w.heap.size w w') : RelPost is ask ts w e w' :=
  ⟨m1, m2, m3, by rw [he, hr], hb, fun h => by rw [hr] at h; cases h⟩

theorem map_at {w w' : World} {b s n : Nat} {k : TypeId} {H : Type} {R : Value → Option (DataW H × List MemPlace)} {D : DataW H} (h : w.ownsMap Tryz.prog k R s n D) (hb : s ≠ b) (hs : Step b w w') : w'.ownsMap Tryz.prog k R s n D := by
  have hlt := h.lt
  obtain ⟨es, clock, hc, F, hz, hD⟩ := h
  exact ⟨es, clock, (hs.block s hlt hb).trans hc, F, hz, hD⟩

theorem step_three (b : Nat) (w : World) (x0 x1 x2 : Value) : Step b w (((w.setCell ⟨b, 0, none⟩ x0).setCell ⟨b, 1, none⟩ x1).setCell ⟨b, 2, none⟩ x2) := (((Step.refl _ _).setCell 0 _).setCell 1 _).setCell 2 _

theorem rel_order (x1 x2 x3 pb : Bool) : ((x1 && (x2 && x3)) && pb) = (((x1 && pb) && x2) && x3) := by cases x1 <;> cases x2 <;> cases x3 <;> cases pb <;> rfl

theorem below_three {B b : Nat} {w W : World} (h : Below B w W) (hb : B ≤ b) (x0 x1 x2 : Value) : Below B w (((W.setCell ⟨b, 0, none⟩ x0).setCell ⟨b, 1, none⟩ x1).setCell ⟨b, 2, none⟩ x2) :=
  ((h.setCell (p := ⟨b, 0, none⟩) hb _).setCell (p := ⟨b, 1, none⟩) hb _).setCell (p := ⟨b, 2, none⟩) hb _

set_option maxRecDepth 20000 in
set_option maxHeartbeats 4000000 in
theorem openRel_calls (is ask ts : List (List UInt8)) (n1 : is.length ≤ 1048576) (s1 : ∀ p ∈ is, p.length ≤ 9223372036854775807) (n2 : ask.length ≤ 1048576) (s2 : ∀ p ∈ ask, p.length ≤ 9223372036854775807) (n3 : ts.length ≤ 1048576) (s3 : ∀ p ∈ ts, p.length ≤ 9223372036854775807) (a1 a2 a3 : Value) (w : World) (h1 : TextsAt w a1 is) (h2 : TextsAt w a2 ask) (h3 : TextsAt w a3 ts) (hT : Tab w) (hG : 0 < w.heap.size) :
    Calls Tryz.prog 27 #[.agg #[a1, a2, a3]] w (RelPost is ask ts w) := by
  have HFa := hid h1
  have HFb := hid h2
  have HFc := hid h3
  have HTAB := hid hT
  have C1 := hid (fun W x hT hG => iss_any is n1 s1 a1 W x hT hG)
  have C2 := hid (fun W x hT hG => rread_any ask n2 s2 30 (by omega) a2 W x hT hG)
  have C3 := hid (fun W x hT hG => rread_any ts n3 s3 200 (by omega) a3 W x hT hG)
  have HR : Hid (relB is ask ts = (((someB is 8 && pubsB is is.length) && someB ask 30) && someB ts 200)) := hid (rel_order _ _ _ _)
  obtain ⟨p, c, rfl, t1⟩ := h1
  obtain ⟨q, d, rfl, t2⟩ := h2
  obtain ⟨u, v, rfl, t3⟩ := h3
  clear t1 t2 t3 n1 n2 n3 s1 s2 s3 hT
  generalize (someB is 8 && pubsB is is.length) = x1 at *
  generalize someB ask 30 = x2 at *
  generalize someB ts 200 = x3 at *
  have HB0_0 : Hid (Below w.heap.size w w) := hid (Below.refl _ _)
  have hz0 : w.heap.size ≤ w.heap.size := Nat.le_refl _
  obtain ⟨w1, hw1⟩ : ∃ W, W = w.alloc (.cells #[.slice p is.length c, .slice q ask.length d, .slice u ts.length v] 26) := ⟨_, rfl⟩
  have hb1 : Below w.heap.size w w1 := by rw [hw1]; exact (Below.refl _ _).alloc (Nat.le_refl _) _
  have hz1 : w.heap.size < w1.heap.size := by rw [hw1]; simp
  have HVV_1 : Hid (w1.heap[w.heap.size]? = some (.cells #[.slice p is.length c, .slice q ask.length d, .slice u ts.length v] 26)) := hid (by rw [hw1]; exact heap_alloc_new _ _)
  have HW1 := hid hw1
  have HB0_1 := hid (HB0_0.out.trans (hb1.mono HB0_0.out.size))
  clear hw1 hb1
  obtain ⟨w2, hw2⟩ : ∃ W, W = w1.alloc (.cells #[.map none, .map none, .map none] 51) := ⟨_, rfl⟩
  have hb2 : Below w1.heap.size w1 w2 := by rw [hw2]; exact (Below.refl _ _).alloc (Nat.le_refl _) _
  have hz2 : w1.heap.size < w2.heap.size := by rw [hw2]; simp
  have HVZ_2 : Hid (w2.heap[w1.heap.size]? = some (.cells #[.map none, .map none, .map none] 51)) := hid (by rw [hw2]; exact heap_alloc_new _ _)
  have HW2 := hid hw2
  have HB0_2 := hid (HB0_1.out.trans (hb2.mono HB0_1.out.size))
  have HVV_2 := hid ((hb2.block _ (by omega)).trans HVV_1.out)
  clear HB0_1
  clear hw2 hb2
  have hzL : w1.heap.size = w.heap.size + 1 := by rw [HW1.out]; simp
  have hzL2 : w.heap.size + 1 < w2.heap.size := by omega
  rw [hzL] at HVZ_2
  clear hzL
  cases x1 with
  | false =>
    go_enter Tryz.func27, Tryz.ntmps27
    go_wp2_with (go_at_call 51; rw [← HW1.out]; rw [← HW2.out]; refine (C1.out _ (HFa.out.on HB0_2.out) (tab_on HTAB.out hG HB0_2.out) (Nat.lt_of_lt_of_le hG HB0_2.out.size)).mono ?_; rintro e w3 ⟨m1, rfl, hb3, hm1⟩; refine Hid.out ?_)
    refine hid ?_
    clear HVV_1
    have hz3 := hb3.size
    have HB0_3 := hid (HB0_2.out.trans (hb3.mono HB0_2.out.size))
    have HVV_3 := hid ((hb3.block _ (by omega)).trans HVV_2.out)
    have HVZ_3 := hid ((hb3.block _ (by omega)).trans HVZ_2.out)
    clear HB0_2 HVV_2 HVZ_2
    clear hm1
    clear hb3
    have k_V_0 := (cell_of_row _ _ 0 _ _ _ HVV_3.out).trans rfl
    have k_V_1 := (cell_of_row _ _ 1 _ _ _ HVV_3.out).trans rfl
    have k_V_2 := (cell_of_row _ _ 2 _ _ _ HVV_3.out).trans rfl
    go_wp2_with (go_at_call 52; refine (C2.out _ (HFb.out.on HB0_3.out) (tab_on HTAB.out hG HB0_3.out) (Nat.lt_of_lt_of_le hG HB0_3.out.size)).mono ?_; rintro e w4 ⟨m2, rfl, hb4, hm2⟩; refine Hid.out ?_)
    refine hid ?_
    clear k_V_0 k_V_1 k_V_2
    have hz4 := hb4.size
    have HB0_4 := hid (HB0_3.out.trans (hb4.mono HB0_3.out.size))
    have HVV_4 := hid ((hb4.block _ (by omega)).trans HVV_3.out)
    have HVZ_4 := hid ((hb4.block _ (by omega)).trans HVZ_3.out)
    clear HB0_3 HVV_3 HVZ_3
    clear hm2
    clear hb4
    have k_V_0 := (cell_of_row _ _ 0 _ _ _ HVV_4.out).trans rfl
    have k_V_1 := (cell_of_row _ _ 1 _ _ _ HVV_4.out).trans rfl
    have k_V_2 := (cell_of_row _ _ 2 _ _ _ HVV_4.out).trans rfl
    go_wp2_with (go_at_call 52; refine (C3.out _ (HFc.out.on HB0_4.out) (tab_on HTAB.out hG HB0_4.out) (Nat.lt_of_lt_of_le hG HB0_4.out.size)).mono ?_; rintro e w5 ⟨m3, rfl, hb5, hm3⟩; refine Hid.out ?_)
    refine hid ?_
    clear k_V_0 k_V_1 k_V_2
    have hz5 := hb5.size
    have HB0_5 := hid (HB0_4.out.trans (hb5.mono HB0_4.out.size))
    have HVV_5 := hid ((hb5.block _ (by omega)).trans HVV_4.out)
    have HVZ_5 := hid ((hb5.block _ (by omega)).trans HVZ_4.out)
    clear HB0_4 HVV_4 HVZ_4
    clear hm3
    clear hb5
    obtain ⟨z0, z1, z2⟩ := three_refs HVZ_5.out
    have f0 := st_thaw HVZ_5.out 0
    have f1 := st_thaw HVZ_5.out 1
    have f2 := st_thaw HVZ_5.out 2
    go_wp2
    exact bodyPost_ret (v := .tuple #[.agg #[.map none, .map none, .map none], .bool false]) (by simp [results, Tryz.results27, go_sem, z0, z1, z2]) rfl (relp_no (by rw [HR.out] <;> rfl) rfl (below_three HB0_5.out (Nat.le_succ _) _ _ _))
  | true =>
    cases x2 with
    | false =>
      go_enter Tryz.func27, Tryz.ntmps27
      go_wp2_with (go_at_call 51; rw [← HW1.out]; rw [← HW2.out]; refine (C1.out _ (HFa.out.on HB0_2.out) (tab_on HTAB.out hG HB0_2.out) (Nat.lt_of_lt_of_le hG HB0_2.out.size)).mono ?_; rintro e w3 ⟨m1, rfl, hb3, hm1⟩; refine Hid.out ?_)
      refine hid ?_
      clear HVV_1
      have hz3 := hb3.size
      have HB0_3 := hid (HB0_2.out.trans (hb3.mono HB0_2.out.size))
      have HVV_3 := hid ((hb3.block _ (by omega)).trans HVV_2.out)
      have HVZ_3 := hid ((hb3.block _ (by omega)).trans HVZ_2.out)
      clear HB0_2 HVV_2 HVZ_2
      clear hm1
      clear hb3
      have k_V_0 := (cell_of_row _ _ 0 _ _ _ HVV_3.out).trans rfl
      have k_V_1 := (cell_of_row _ _ 1 _ _ _ HVV_3.out).trans rfl
      have k_V_2 := (cell_of_row _ _ 2 _ _ _ HVV_3.out).trans rfl
      go_wp2_with (go_at_call 52; refine (C2.out _ (HFb.out.on HB0_3.out) (tab_on HTAB.out hG HB0_3.out) (Nat.lt_of_lt_of_le hG HB0_3.out.size)).mono ?_; rintro e w4 ⟨m2, rfl, hb4, hm2⟩; refine Hid.out ?_)
      refine hid ?_
      clear k_V_0 k_V_1 k_V_2
      have hz4 := hb4.size
      have HB0_4 := hid (HB0_3.out.trans (hb4.mono HB0_3.out.size))
      have HVV_4 := hid ((hb4.block _ (by omega)).trans HVV_3.out)
      have HVZ_4 := hid ((hb4.block _ (by omega)).trans HVZ_3.out)
      clear HB0_3 HVV_3 HVZ_3
      clear hm2
      clear hb4
      have k_V_0 := (cell_of_row _ _ 0 _ _ _ HVV_4.out).trans rfl
      have k_V_1 := (cell_of_row _ _ 1 _ _ _ HVV_4.out).trans rfl
      have k_V_2 := (cell_of_row _ _ 2 _ _ _ HVV_4.out).trans rfl
      go_wp2_with (go_at_call 52; refine (C3.out _ (HFc.out.on HB0_4.out) (tab_on HTAB.out hG HB0_4.out) (Nat.lt_of_lt_of_le hG HB0_4.out.size)).mono ?_; rintro e w5 ⟨m3, rfl, hb5, hm3⟩; refine Hid.out ?_)
      refine hid ?_
      clear k_V_0 k_V_1 k_V_2
      have hz5 := hb5.size
      have HB0_5 := hid (HB0_4.out.trans (hb5.mono HB0_4.out.size))
      have HVV_5 := hid ((hb5.block _ (by omega)).trans HVV_4.out)
      have HVZ_5 := hid ((hb5.block _ (by omega)).trans HVZ_4.out)
      clear HB0_4 HVV_4 HVZ_4
      clear hm3
      clear hb5
      obtain ⟨z0, z1, z2⟩ := three_refs HVZ_5.out
      have f0 := st_thaw HVZ_5.out 0
      have f1 := st_thaw HVZ_5.out 1
      have f2 := st_thaw HVZ_5.out 2
      go_wp2
      exact bodyPost_ret (v := .tuple #[.agg #[.map none, .map none, .map none], .bool false]) (by simp [results, Tryz.results27, go_sem, z0, z1, z2]) rfl (relp_no (by rw [HR.out] <;> rfl) rfl (below_three HB0_5.out (Nat.le_succ _) _ _ _))
    | true =>
      cases x3 with
      | false =>
        go_enter Tryz.func27, Tryz.ntmps27
        go_wp2_with (go_at_call 51; rw [← HW1.out]; rw [← HW2.out]; refine (C1.out _ (HFa.out.on HB0_2.out) (tab_on HTAB.out hG HB0_2.out) (Nat.lt_of_lt_of_le hG HB0_2.out.size)).mono ?_; rintro e w3 ⟨m1, rfl, hb3, hm1⟩; refine Hid.out ?_)
        refine hid ?_
        clear HVV_1
        have hz3 := hb3.size
        have HB0_3 := hid (HB0_2.out.trans (hb3.mono HB0_2.out.size))
        have HVV_3 := hid ((hb3.block _ (by omega)).trans HVV_2.out)
        have HVZ_3 := hid ((hb3.block _ (by omega)).trans HVZ_2.out)
        clear HB0_2 HVV_2 HVZ_2
        clear hm1
        clear hb3
        have k_V_0 := (cell_of_row _ _ 0 _ _ _ HVV_3.out).trans rfl
        have k_V_1 := (cell_of_row _ _ 1 _ _ _ HVV_3.out).trans rfl
        have k_V_2 := (cell_of_row _ _ 2 _ _ _ HVV_3.out).trans rfl
        go_wp2_with (go_at_call 52; refine (C2.out _ (HFb.out.on HB0_3.out) (tab_on HTAB.out hG HB0_3.out) (Nat.lt_of_lt_of_le hG HB0_3.out.size)).mono ?_; rintro e w4 ⟨m2, rfl, hb4, hm2⟩; refine Hid.out ?_)
        refine hid ?_
        clear k_V_0 k_V_1 k_V_2
        have hz4 := hb4.size
        have HB0_4 := hid (HB0_3.out.trans (hb4.mono HB0_3.out.size))
        have HVV_4 := hid ((hb4.block _ (by omega)).trans HVV_3.out)
        have HVZ_4 := hid ((hb4.block _ (by omega)).trans HVZ_3.out)
        clear HB0_3 HVV_3 HVZ_3
        clear hm2
        clear hb4
        have k_V_0 := (cell_of_row _ _ 0 _ _ _ HVV_4.out).trans rfl
        have k_V_1 := (cell_of_row _ _ 1 _ _ _ HVV_4.out).trans rfl
        have k_V_2 := (cell_of_row _ _ 2 _ _ _ HVV_4.out).trans rfl
        go_wp2_with (go_at_call 52; refine (C3.out _ (HFc.out.on HB0_4.out) (tab_on HTAB.out hG HB0_4.out) (Nat.lt_of_lt_of_le hG HB0_4.out.size)).mono ?_; rintro e w5 ⟨m3, rfl, hb5, hm3⟩; refine Hid.out ?_)
        refine hid ?_
        clear k_V_0 k_V_1 k_V_2
        have hz5 := hb5.size
        have HB0_5 := hid (HB0_4.out.trans (hb5.mono HB0_4.out.size))
        have HVV_5 := hid ((hb5.block _ (by omega)).trans HVV_4.out)
        have HVZ_5 := hid ((hb5.block _ (by omega)).trans HVZ_4.out)
        clear HB0_4 HVV_4 HVZ_4
        clear hm3
        clear hb5
        obtain ⟨z0, z1, z2⟩ := three_refs HVZ_5.out
        have f0 := st_thaw HVZ_5.out 0
        have f1 := st_thaw HVZ_5.out 1
        have f2 := st_thaw HVZ_5.out 2
        go_wp2
        exact bodyPost_ret (v := .tuple #[.agg #[.map none, .map none, .map none], .bool false]) (by simp [results, Tryz.results27, go_sem, z0, z1, z2]) rfl (relp_no (by rw [HR.out] <;> rfl) rfl (below_three HB0_5.out (Nat.le_succ _) _ _ _))
      | true =>
        go_enter Tryz.func27, Tryz.ntmps27
        go_wp2_with (go_at_call 51; rw [← HW1.out]; rw [← HW2.out]; refine (C1.out _ (HFa.out.on HB0_2.out) (tab_on HTAB.out hG HB0_2.out) (Nat.lt_of_lt_of_le hG HB0_2.out.size)).mono ?_; rintro e w3 ⟨m1, rfl, hb3, hm1⟩; refine Hid.out ?_)
        refine hid ?_
        clear HVV_1
        have hz3 := hb3.size
        have HB0_3 := hid (HB0_2.out.trans (hb3.mono HB0_2.out.size))
        have HVV_3 := hid ((hb3.block _ (by omega)).trans HVV_2.out)
        have HVZ_3 := hid ((hb3.block _ (by omega)).trans HVZ_2.out)
        clear HB0_2 HVV_2 HVZ_2
        have HB3_3 : Hid (Below w3.heap.size w3 w3) := hid (Below.refl _ _)
        have HFs1 := hid (hm1.out (by first | rfl | trivial))
        clear hm1
        clear hb3
        have k_V_0 := (cell_of_row _ _ 0 _ _ _ HVV_3.out).trans rfl
        have k_V_1 := (cell_of_row _ _ 1 _ _ _ HVV_3.out).trans rfl
        have k_V_2 := (cell_of_row _ _ 2 _ _ _ HVV_3.out).trans rfl
        go_wp2_with (go_at_call 52; refine (C2.out _ (HFb.out.on HB0_3.out) (tab_on HTAB.out hG HB0_3.out) (Nat.lt_of_lt_of_le hG HB0_3.out.size)).mono ?_; rintro e w4 ⟨m2, rfl, hb4, hm2⟩; refine Hid.out ?_)
        refine hid ?_
        clear k_V_0 k_V_1 k_V_2
        have hz4 := hb4.size
        have HB0_4 := hid (HB0_3.out.trans (hb4.mono HB0_3.out.size))
        have HB3_4 := hid (HB3_3.out.trans (hb4.mono HB3_3.out.size))
        have HVV_4 := hid ((hb4.block _ (by omega)).trans HVV_3.out)
        have HVZ_4 := hid ((hb4.block _ (by omega)).trans HVZ_3.out)
        clear HB0_3 HB3_3 HVV_3 HVZ_3
        have HB4_4 : Hid (Below w4.heap.size w4 w4) := hid (Below.refl _ _)
        have HFs2 := hid (hm2.out (by first | rfl | trivial))
        clear hm2
        clear hb4
        have k_V_0 := (cell_of_row _ _ 0 _ _ _ HVV_4.out).trans rfl
        have k_V_1 := (cell_of_row _ _ 1 _ _ _ HVV_4.out).trans rfl
        have k_V_2 := (cell_of_row _ _ 2 _ _ _ HVV_4.out).trans rfl
        go_wp2_with (go_at_call 52; refine (C3.out _ (HFc.out.on HB0_4.out) (tab_on HTAB.out hG HB0_4.out) (Nat.lt_of_lt_of_le hG HB0_4.out.size)).mono ?_; rintro e w5 ⟨m3, rfl, hb5, hm3⟩; refine Hid.out ?_)
        refine hid ?_
        clear k_V_0 k_V_1 k_V_2
        have hz5 := hb5.size
        have HB0_5 := hid (HB0_4.out.trans (hb5.mono HB0_4.out.size))
        have HB3_5 := hid (HB3_4.out.trans (hb5.mono HB3_4.out.size))
        have HB4_5 := hid (HB4_4.out.trans (hb5.mono HB4_4.out.size))
        have HVV_5 := hid ((hb5.block _ (by omega)).trans HVV_4.out)
        have HVZ_5 := hid ((hb5.block _ (by omega)).trans HVZ_4.out)
        clear HB0_4 HB3_4 HB4_4 HVV_4 HVZ_4
        have HB5_5 : Hid (Below w5.heap.size w5 w5) := hid (Below.refl _ _)
        have HFs3 := hid (hm3.out (by first | rfl | trivial))
        clear hm3
        clear hb5
        obtain ⟨z0, z1, z2⟩ := three_refs HVZ_5.out
        have f0 := st_thaw HVZ_5.out 0
        have f1 := st_thaw HVZ_5.out 1
        have f2 := st_thaw HVZ_5.out 2
        obtain ⟨s1, rfl, l1, t1, o1⟩ := (HFs1.out.on HB3_5.out)
        obtain ⟨s2, rfl, l2, t2, o2⟩ := (HFs2.out.on HB4_5.out)
        obtain ⟨s3, rfl, l3, t3, o3⟩ := (HFs3.out.on HB5_5.out)
        have HO1 := hid o1
        have HO2 := hid o2
        have HO3 := hid o3
        have HL := hid (show (w.heap.size ≤ s1 ∧ s1 < s2 ∧ s2 < s3) ∧ (s1 ≠ w.heap.size + 1 ∧ s2 ≠ w.heap.size + 1 ∧ s3 ≠ w.heap.size + 1) by omega)
        clear o1 o2 o3 l1 t1 l2 t2 l3 t3
        go_wp2
        exact bodyPost_ret (v := .tuple #[.agg #[.map (some s1), .map (some s2), .map (some s3)], .bool true]) (by simp [results, Tryz.results27, go_sem, z0, z1, z2]) rfl ⟨_, _, _, by rw [HR.out] <;> rfl, below_three HB0_5.out (Nat.le_succ _) _ _ _, fun _ => ⟨s1, s2, s3, rfl, rfl, rfl, HL.out.1, map_at HO1.out HL.out.2.1 (step_three _ _ _ _ _), map_at HO2.out HL.out.2.2.1 (step_three _ _ _ _ _), map_at HO3.out HL.out.2.2.2 (step_three _ _ _ _ _)⟩⟩

set_option maxRecDepth 20000 in
set_option maxHeartbeats 4000000 in
theorem rel_impl (is ask ts : List (List UInt8)) (n1 : is.length ≤ 1048576) (s1 : ∀ p ∈ is, p.length ≤ 9223372036854775807) (n2 : ask.length ≤ 1048576) (s2 : ∀ p ∈ ask, p.length ≤ 9223372036854775807) (n3 : ts.length ≤ 1048576) (s3 : ∀ p ∈ ts, p.length ≤ 9223372036854775807) (a1 a2 a3 : Value) (w : World) (h1 : TextsAt w a1 is) (h2 : TextsAt w a2 ask) (h3 : TextsAt w a3 ts) (hT : Tab w) (hG : 0 < w.heap.size) :
    Calls Tryz.prog 17 #[.agg #[a1, a2, a3]] w fun e w' => e = .returned (.bool (relB is ask ts)) ∧ Below w.heap.size w w' := by
  have HFa := hid h1
  have HFb := hid h2
  have HFc := hid h3
  have HTAB := hid hT
  have CO := hid (fun W x1 x2 x3 hT hG => openRel_calls is ask ts n1 s1 n2 s2 n3 s3 a1 a2 a3 W x1 x2 x3 hT hG)
  obtain ⟨p, c, rfl, t1⟩ := h1
  obtain ⟨q, d, rfl, t2⟩ := h2
  obtain ⟨u, v, rfl, t3⟩ := h3
  clear t1 t2 t3 n1 n2 n3 s1 s2 s3 hT
  unfold RelPost at CO
  generalize relB is ask ts = r at *
  have HB0_0 : Hid (Below w.heap.size w w) := hid (Below.refl _ _)
  have hz0 : w.heap.size ≤ w.heap.size := Nat.le_refl _
  obtain ⟨w1, hw1⟩ : ∃ W, W = w.alloc (.cells #[.slice p is.length c, .slice q ask.length d, .slice u ts.length v] 26) := ⟨_, rfl⟩
  have hb1 : Below w.heap.size w w1 := by rw [hw1]; exact (Below.refl _ _).alloc (Nat.le_refl _) _
  have hz1 : w.heap.size < w1.heap.size := by rw [hw1]; simp
  have HVV_1 : Hid (w1.heap[w.heap.size]? = some (.cells #[.slice p is.length c, .slice q ask.length d, .slice u ts.length v] 26)) := hid (by rw [hw1]; exact heap_alloc_new _ _)
  have HW1 := hid hw1
  have HB0_1 := hid (HB0_0.out.trans (hb1.mono HB0_0.out.size))
  clear hw1 hb1
  go_enter Tryz.func17, Tryz.ntmps17
  go_wp2_with (go_at_call 27; rw [← HW1.out]; refine (CO.out _ (HFa.out.on HB0_1.out) (HFb.out.on HB0_1.out) (HFc.out.on HB0_1.out) (tab_on HTAB.out hG HB0_1.out) (Nat.lt_of_lt_of_le hG HB0_1.out.size)).mono ?_; rintro e w2 ⟨m1, m2, m3, rfl, hb2, _⟩; refine Hid.out ?_)
  refine hid ?_
  have hz2 := hb2.size
  have HB0_2 := hid (HB0_1.out.trans (hb2.mono HB0_1.out.size))
  have HVV_2 := hid ((hb2.block _ (by omega)).trans HVV_1.out)
  clear HB0_1 HVV_1
  clear hb2
  go_wp2
  go_ret
  first | exact ⟨rfl, HB0_2.out⟩ | exact ⟨rfl, HB0_2.out.alloc HB0_2.out.size _⟩
end Go.Proofs.YtjaaplcgphlccaaGreatDoor
