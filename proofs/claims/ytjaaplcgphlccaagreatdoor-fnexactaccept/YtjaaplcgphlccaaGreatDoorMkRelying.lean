/- A Relying marked, and asked whether it holds its marks. Written by a program of ours out of the rows. -/
import Derived.Test.YtjaaplcgphlccaaGreatDoorPackKt
import Derived.Test.YtjaaplcgphlccaaGreatDoorStructKit
namespace Go.Proofs.YtjaaplcgphlccaaGreatDoor
open Go.RowKit
open Go.Lib (hid)

set_option maxRecDepth 20000 in
set_option maxHeartbeats 4000000 in
theorem mark_Relying  (l0 : List (List UInt8)) (l1 : List (List UInt8)) (l2 : List (List UInt8)) (k : Nat) (h0 : 0 < k) (hn : k + l0.length + l1.length + l2.length ≤ 1000000000) (b0 b1 b2 : Nat) (a0 a1 a2 : Value) (w : World) (g0 : w.ownsRow b0 9 1 a0 l0.length (strs l0)) (g1 : w.ownsRow b1 9 1 a1 l1.length (strs l1)) (g2 : w.ownsRow b2 9 1 a2 l2.length (strs l2)) (d01 : ApartV a0 a1) (d02 : ApartV a0 a2) (d12 : ApartV a1 a2) :
    Calls Tryz.prog 10 #[.agg #[a0, a1, a2], .int .i64 k] w fun e w' => e = .returned (.int .i64 ((k + l0.length + l1.length + l2.length : Nat) : Int)) ∧ Touch w w' [a0, a1, a2] ∧ w'.ownsRow b0 9 1 a0 l0.length (strs (marks (k) l0.length)) ∧ w'.ownsRow b1 9 1 a1 l1.length (strs (marks (k + l0.length) l1.length)) ∧ w'.ownsRow b2 9 1 a2 l2.length (strs (marks (k + l0.length + l1.length) l2.length)) := by
  obtain ⟨p0, c0, rfl⟩ := touch_slice g0
  obtain ⟨p1, c1, rfl⟩ := touch_slice g1
  obtain ⟨p2, c2, rfl⟩ := touch_slice g2
  obtain ⟨W0, hW0⟩ : ∃ W0, W0 = w.alloc (.cells #[.slice p0 l0.length c0, .slice p1 l1.length c1, .slice p2 l2.length c2] 26) := ⟨_, rfl⟩
  have HB0 : Hid (Below w.heap.size w W0) := hid (by rw [hW0]; exact (Below.refl _ _).alloc (Nat.le_refl _) _)
  have HC0 : Hid (W0.heap[w.heap.size]? = some (.cells #[.slice p0 l0.length c0, .slice p1 l1.length c1, .slice p2 l2.length c2] 26)) := hid (by rw [hW0]; exact heap_alloc_new _ _)
  have hz0 : w.heap.size < W0.heap.size := by rw [hW0]; simp
  have HW0 := hid hW0
  have HT0 : Hid (Touch w W0 []) := hid (Touch.of_below HB0.out [])
  have HA0_0 := hid (own_below g0 HB0.out)
  have HL0 := hid g0.lt
  have HA1_0 := hid (own_below g1 HB0.out)
  have HL1 := hid g1.lt
  have HA2_0 := hid (own_below g2 HB0.out)
  have HL2 := hid g2.lt
  have HD01 := hid d01
  have HD02 := hid d02
  have HD12 := hid d12
  obtain ⟨j1, hj1⟩ : ∃ j, j = k + l0.length := ⟨_, rfl⟩
  obtain ⟨j2, hj2⟩ : ∃ j, j = j1 + l1.length := ⟨_, rfl⟩
  obtain ⟨j3, hj3⟩ : ∃ j, j = j2 + l2.length := ⟨_, rfl⟩
  have hp1 : 0 < j1 := by omega
  have hp2 : 0 < j2 := by omega
  have hp3 : 0 < j3 := by omega
  have C0 := hid (fun (W : World) h => (mark_calls l0 k h0 (by omega) b0 (.slice p0 l0.length c0) W h).mono (fun e w' x => (⟨x.1, Touch.of_grown x.2.1, x.2.2⟩ : _ ∧ Touch W w' [.slice p0 l0.length c0] ∧ _)))
  have C1 := hid (fun (W : World) h => (mark_calls l1 j1 hp1 (by omega) b1 (.slice p1 l1.length c1) W h).mono (fun e w' x => (⟨x.1, Touch.of_grown x.2.1, x.2.2⟩ : _ ∧ Touch W w' [.slice p1 l1.length c1] ∧ _)))
  have C2 := hid (fun (W : World) h => (mark_calls l2 j2 hp2 (by omega) b2 (.slice p2 l2.length c2) W h).mono (fun e w' x => (⟨x.1, Touch.of_grown x.2.1, x.2.2⟩ : _ ∧ Touch W w' [.slice p2 l2.length c2] ∧ _)))
  rw [← hj1] at ⊢
  rw [← hj2] at ⊢
  rw [← hj3] at ⊢
  rw [← hj1] at C0
  rw [← hj2] at C1
  rw [← hj3] at C2
  clear hW0 hn h0 g0 g1 g2 d01 d02 d12 hj1 hj2 hj3 hp1 hp2 hp3
  go_enter Tryz.func10, Tryz.ntmps10
  go_wp2_with (go_at_call 31; rw [← HW0.out]; refine (C0.out _ HA0_0.out).mono ?_; rintro e w1 ⟨rfl, ht1, ho0⟩; refine Hid.out ?_)
  refine hid ?_
  have HT1 := hid (HT0.out.trans ht1)
  have HC1 := hid (ht1.box HC0.out (touch_one (fun e => by have := HL0.out _ e; omega)))
  have HA0_1 := hid ho0
  have HA1_1 := hid (ht1.row HA1_0.out (touch_ap HD01.out.symm))
  have HA2_1 := hid (ht1.row HA2_0.out (touch_ap HD02.out.symm))
  clear ht1 ho0
  have k0 := (cell_of_row _ _ 0 _ _ _ HC1.out).trans rfl
  have k1 := (cell_of_row _ _ 1 _ _ _ HC1.out).trans rfl
  have k2 := (cell_of_row _ _ 2 _ _ _ HC1.out).trans rfl
  go_wp2_with (go_at_call 31; refine (C1.out _ HA1_1.out).mono ?_; rintro e w2 ⟨rfl, ht2, ho1⟩; refine Hid.out ?_)
  refine hid ?_
  have HT2 := hid (HT1.out.trans ht2)
  have HC2 := hid (ht2.box HC1.out (touch_one (fun e => by have := HL1.out _ e; omega)))
  have HA0_2 := hid (ht2.row HA0_1.out (touch_ap HD01.out))
  have HA1_2 := hid ho1
  have HA2_2 := hid (ht2.row HA2_1.out (touch_ap HD12.out.symm))
  clear ht2 ho1
  clear k0 k1 k2
  have k0 := (cell_of_row _ _ 0 _ _ _ HC2.out).trans rfl
  have k1 := (cell_of_row _ _ 1 _ _ _ HC2.out).trans rfl
  have k2 := (cell_of_row _ _ 2 _ _ _ HC2.out).trans rfl
  go_wp2_with (go_at_call 31; refine (C2.out _ HA2_2.out).mono ?_; rintro e w3 ⟨rfl, ht3, ho2⟩; refine Hid.out ?_)
  refine hid ?_
  have HT3 := hid (HT2.out.trans ht3)
  have HC3 := hid (ht3.box HC2.out (touch_one (fun e => by have := HL2.out _ e; omega)))
  have HA0_3 := hid (ht3.row HA0_2.out (touch_ap HD02.out))
  have HA1_3 := hid (ht3.row HA1_2.out (touch_ap HD12.out))
  have HA2_3 := hid ho2
  clear ht3 ho2
  clear k0 k1 k2
  go_wp2
  go_ret
  exact ⟨rfl, HT3.out.as (fun y hy => by simpa using hy), HA0_3.out, HA1_3.out, HA2_3.out⟩

set_option maxRecDepth 20000 in
set_option maxHeartbeats 4000000 in
theorem held_Relying  (k n0 n1 n2 : Nat) (h0 : 0 < k) (hn : k + n0 + n1 + n2 ≤ 1000000000) (a0 a1 a2 : Value) (w : World) (g0 : TextsAt w a0 (marks (k) n0)) (g1 : TextsAt w a1 (marks (k + n0) n1)) (g2 : TextsAt w a2 (marks (k + n0 + n1) n2)) :
    Calls Tryz.prog 11 #[.agg #[a0, a1, a2], .int .i64 k] w fun e w' => e = .returned (.int .i64 ((k + n0 + n1 + n2 : Nat) : Int)) ∧ Below w.heap.size w w' := by
  obtain ⟨p0, c0, e0⟩ : ∃ p c, a0 = .slice p n0 c := by
    obtain ⟨p, c, e, _⟩ := g0
    exact ⟨p, c, by rw [e, marks_len]⟩
  subst e0
  obtain ⟨p1, c1, e1⟩ : ∃ p c, a1 = .slice p n1 c := by
    obtain ⟨p, c, e, _⟩ := g1
    exact ⟨p, c, by rw [e, marks_len]⟩
  subst e1
  obtain ⟨p2, c2, e2⟩ : ∃ p c, a2 = .slice p n2 c := by
    obtain ⟨p, c, e, _⟩ := g2
    exact ⟨p, c, by rw [e, marks_len]⟩
  subst e2
  have HR0 := hid g0
  have HR1 := hid g1
  have HR2 := hid g2
  obtain ⟨j1, hj1⟩ : ∃ j, j = k + n0 := ⟨_, rfl⟩
  obtain ⟨j2, hj2⟩ : ∃ j, j = j1 + n1 := ⟨_, rfl⟩
  obtain ⟨j3, hj3⟩ : ∃ j, j = j2 + n2 := ⟨_, rfl⟩
  have hp1 : 0 < j1 := by omega
  have hq1 : ¬ (j1 : Int) < 0 := by omega
  have hp2 : 0 < j2 := by omega
  have hq2 : ¬ (j2 : Int) < 0 := by omega
  have hp3 : 0 < j3 := by omega
  have hq3 : ¬ (j3 : Int) < 0 := by omega
  have C0 := hid (fun (W : World) h => held_calls k n0 h0 (by omega) (.slice p0 n0 c0) W h)
  have C1 := hid (fun (W : World) h => held_calls j1 n1 hp1 (by omega) (.slice p1 n1 c1) W h)
  have C2 := hid (fun (W : World) h => held_calls j2 n2 hp2 (by omega) (.slice p2 n2 c2) W h)
  rw [← hj1] at ⊢ HR1 HR2
  rw [← hj2] at ⊢ HR2
  rw [← hj3] at ⊢
  rw [← hj1] at C0
  rw [← hj2] at C1
  rw [← hj3] at C2
  obtain ⟨W0, hW0⟩ : ∃ W0, W0 = w.alloc (.cells #[.slice p0 n0 c0, .slice p1 n1 c1, .slice p2 n2 c2] 26) := ⟨_, rfl⟩
  have HB0 : Hid (Below w.heap.size w W0) := hid (by rw [hW0]; exact (Below.refl _ _).alloc (Nat.le_refl _) _)
  have HC0 : Hid (W0.heap[w.heap.size]? = some (.cells #[.slice p0 n0 c0, .slice p1 n1 c1, .slice p2 n2 c2] 26)) := hid (by rw [hW0]; exact heap_alloc_new _ _)
  have hz0 : w.heap.size < W0.heap.size := by rw [hW0]; simp
  have HW0 := hid hW0
  clear hW0 hn h0 g0 g1 g2 hj1 hj2 hj3 hp1 hp2 hp3
  go_enter Tryz.func11, Tryz.ntmps11
  go_wp2_with (go_at_call 32; rw [← HW0.out]; refine (C0.out _ (HR0.out.on HB0.out)).mono ?_; rintro e w1 ⟨rfl, hb1⟩; refine Hid.out ?_)
  refine hid ?_
  have HB1 := hid (HB0.out.trans (hb1.mono HB0.out.size))
  have HC1 := hid ((hb1.block _ (by omega)).trans HC0.out)
  have hz1 := hb1.size
  clear hb1
  have k0 := (cell_of_row _ _ 0 _ _ _ HC1.out).trans rfl
  have k1 := (cell_of_row _ _ 1 _ _ _ HC1.out).trans rfl
  have k2 := (cell_of_row _ _ 2 _ _ _ HC1.out).trans rfl
  go_wp2_with (go_at_call 32; refine (C1.out _ (HR1.out.on HB1.out)).mono ?_; rintro e w2 ⟨rfl, hb2⟩; refine Hid.out ?_)
  refine hid ?_
  have HB2 := hid (HB1.out.trans (hb2.mono HB1.out.size))
  have HC2 := hid ((hb2.block _ (by omega)).trans HC1.out)
  have hz2 := hb2.size
  clear hb2
  clear k0 k1 k2
  have k0 := (cell_of_row _ _ 0 _ _ _ HC2.out).trans rfl
  have k1 := (cell_of_row _ _ 1 _ _ _ HC2.out).trans rfl
  have k2 := (cell_of_row _ _ 2 _ _ _ HC2.out).trans rfl
  go_wp2_with (go_at_call 32; refine (C2.out _ (HR2.out.on HB2.out)).mono ?_; rintro e w3 ⟨rfl, hb3⟩; refine Hid.out ?_)
  refine hid ?_
  have HB3 := hid (HB2.out.trans (hb3.mono HB2.out.size))
  have HC3 := hid ((hb3.block _ (by omega)).trans HC2.out)
  have hz3 := hb3.size
  clear hb3
  clear k0 k1 k2
  go_wp2
  go_ret
  exact ⟨rfl, HB3.out⟩

end Go.Proofs.YtjaaplcgphlccaaGreatDoor
