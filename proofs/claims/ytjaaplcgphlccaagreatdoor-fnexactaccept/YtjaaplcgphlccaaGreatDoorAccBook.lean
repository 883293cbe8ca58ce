/- A token accepted: the program's book, whole. -/
import Derived.Test.YtjaaplcgphlccaaGreatDoorAccImpl
import Derived.Maps.OwnSet
namespace Go.Proofs.YtjaaplcgphlccaaGreatDoor
open Go.RowKit Go.WideMaps Go.Maps
open Go.Lib (hid)

set_option maxRecDepth 20000 in
set_option maxHeartbeats 4000000 in
theorem accept_calls (is ask ts : List (List UInt8)) (s1 s2 s3 n1 n2 n3 : Nat) (t x name : ByteArray) (boots : Int) (hx : x.size ≤ maxLen) (hm : n3 < 1048576) (h23 : s2 < s3) (hl : Maps.size (setD (H := Unit) ts) = ts.length) (hgs : goodA is x.data.toList name boots t.data.toList = sigA is x.data.toList name boots t.data.toList) (w : World)
    (o1 : w.ownsMap Tryz.prog 9 (unitElem (H := Unit)) s1 n1 (setD is)) (o2 : w.ownsMap Tryz.prog 9 (unitElem (H := Unit)) s2 n2 (setD ask)) (o3 : w.ownsMap Tryz.prog 9 (unitElem (H := Unit)) s3 n3 (setD ts)) (hT : Tab w) (hG : 0 < w.heap.size) (hP : Lib.TabIs Tryz.prog w "internal/strconv.uint64pow10" .u64 Lib.pow10Tab) :
    Calls Tryz.prog 28 #[.agg #[.map (some s1), .map (some s2), .map (some s3)], .string t, .string x, .string name, .int .i64 boots] w fun e w' => e = .returned (.int .i64 (accL is ask ts x name boots t)) ∧
      (accL is ask ts x name boots t ≠ 0 → Below w.heap.size w w') ∧ (accL is ask ts x name boots t = 0 → ∃ wm, w.grownBy wm (some s2) ∧ wm.grownBy w' (some s3) ∧ w'.ownsMap Tryz.prog 9 (unitElem (H := Unit)) s2 n2 ((setD (H := Unit) ask).del (.string x.data.toList)) ∧ w'.ownsMap Tryz.prog 9 (unitElem (H := Unit)) s3 (n3 + 1) ((setD (H := Unit) ts).put (.string x.data.toList) (.agg []))) := by
  have HKY := hid (keyOf_string_mk (P := Tryz.prog) Tryz.underlying9 hx)
  have C2 := hid (fun W (hB : Below w.heap.size w W) => shas_calls (setD (H := Unit) ask) s2 n2 x W hx (o2.kept (grown_below (row := none) hB) (by simp)))
  have CS := hid (fun W (hB : Below w.heap.size w W) => sig_calls is s1 s2 s3 n1 t x name boots W (o1.kept (grown_below (row := none) hB) (by simp)) (tab_on hT hG hB) (Nat.lt_of_lt_of_le hG hB.size) (Num.tab_stays hB hP))
  have CP := hid (fun W h => sput_calls s3 n3 (setD (H := Unit) ts) x W hx h hm)
  have HO2 := hid o2
  have HO3 := hid o3
  have hs2 := o2.lt
  have hs3 := o3.lt
  have HA : Hid (accL is ask ts x name boots t = if x.data.toList ∉ ask then 5 else if goodA is x.data.toList name boots t.data.toList = false then 6 else if 200 ≤ ts.length then 4 else 0) := hid rfl
  rw [hgs] at HA
  have HB2 : Hid (Maps.has (setD (H := Unit) ask) (.string x.data.toList) = decide (x.data.toList ∈ ask)) := hid (by rw [Bool.eq_iff_iff, set_has, decide_eq_true_iff])
  rw [HB2.out] at C2
  clear HB2 o1 o2 o3 hgs hP
  have HTAB := hid hT
  clear hT
  generalize accL is ask ts x name boots t = r at *
  generalize sigA is x.data.toList name boots t.data.toList = gb at *
  have HB0_0 : Hid (Below w.heap.size w w) := hid (Below.refl _ _)
  have hz0 : w.heap.size ≤ w.heap.size := Nat.le_refl _
  obtain ⟨w1, hw1⟩ : ∃ W, W = w.alloc (.cells #[.map (some s1), .map (some s2), .map (some s3)] 51) := ⟨_, rfl⟩
  have hb1 : Below w.heap.size w w1 := by rw [hw1]; exact (Below.refl _ _).alloc (Nat.le_refl _) _
  have hz1 : w.heap.size < w1.heap.size := by rw [hw1]; simp
  have HVB_1 : Hid (w1.heap[w.heap.size]? = some (.cells #[.map (some s1), .map (some s2), .map (some s3)] 51)) := hid (by rw [hw1]; exact heap_alloc_new _ _)
  have HW1 := hid hw1
  have HB0_1 := hid (HB0_0.out.trans (hb1.mono HB0_0.out.size))
  clear hw1 hb1
  by_cases m2 : x.data.toList ∈ ask
  · rw [show decide (x.data.toList ∈ ask) = true from decide_eq_true m2] at C2
    rw [if_neg (fun h => h m2)] at HA
    clear m2
    cases gb with
    | false =>
      have HZ : Hid (r = 6) := hid (by rw [HA.out, if_pos rfl])
      clear HA
      go_enter Tryz.func28, Tryz.ntmps28
      go_wp2_with (go_at_call 53; rw [← HW1.out]; refine (C2.out _ HB0_1.out).mono ?_; rintro e w2 ⟨rfl, hb2⟩; refine Hid.out ?_)
      refine hid ?_
      have hz2 := hb2.size
      have HB0_2 := hid (HB0_1.out.trans (hb2.mono HB0_1.out.size))
      have HVB_2 := hid ((hb2.block _ (by omega)).trans HVB_1.out)
      clear HB0_1 HVB_1
      clear hb2
      have k_B_0 := (cell_of_row _ _ 0 _ _ _ HVB_2.out).trans rfl
      have k_B_1 := (cell_of_row _ _ 1 _ _ _ HVB_2.out).trans rfl
      have k_B_2 := (cell_of_row _ _ 2 _ _ _ HVB_2.out).trans rfl
      obtain ⟨k0, k1, k2⟩ := three_refs HVB_2.out
      go_wp2_with (go_at_call 54; refine (CS.out _ HB0_2.out).mono ?_; rintro e w3 ⟨rfl, hb3⟩; refine Hid.out ?_)
      refine hid ?_
      clear k_B_0 k_B_1 k_B_2
      have hz3 := hb3.size
      have HB0_3 := hid (HB0_2.out.trans (hb3.mono HB0_2.out.size))
      have HVB_3 := hid ((hb3.block _ (by omega)).trans HVB_2.out)
      clear HB0_2 HVB_2
      clear hb3
      clear k0 k1 k2
      go_wp2
      go_ret
      exact ⟨by rw [HZ.out] <;> rfl, fun _ => HB0_3.out, fun h => absurd (HZ.out.symm.trans h) (by decide)⟩
    | true =>
      rw [if_neg (fun h => by cases h)] at HA
      by_cases h200 : 200 ≤ ts.length
      · have HZ : Hid (r = 4) := hid (by rw [HA.out, if_pos h200])
        have hge : decide ((200 : Int) ≤ (ts.length : Int)) = true := decide_eq_true (by omega)
        clear HA
        go_enter Tryz.func28, Tryz.ntmps28
        go_wp2_with (go_at_call 53; rw [← HW1.out]; refine (C2.out _ HB0_1.out).mono ?_; rintro e w2 ⟨rfl, hb2⟩; refine Hid.out ?_)
        refine hid ?_
        have hz2 := hb2.size
        have HB0_2 := hid (HB0_1.out.trans (hb2.mono HB0_1.out.size))
        have HVB_2 := hid ((hb2.block _ (by omega)).trans HVB_1.out)
        clear HB0_1 HVB_1
        clear hb2
        have k_B_0 := (cell_of_row _ _ 0 _ _ _ HVB_2.out).trans rfl
        have k_B_1 := (cell_of_row _ _ 1 _ _ _ HVB_2.out).trans rfl
        have k_B_2 := (cell_of_row _ _ 2 _ _ _ HVB_2.out).trans rfl
        obtain ⟨k0, k1, k2⟩ := three_refs HVB_2.out
        go_wp2_with (go_at_call 54; refine (CS.out _ HB0_2.out).mono ?_; rintro e w3 ⟨rfl, hb3⟩; refine Hid.out ?_)
        refine hid ?_
        clear k_B_0 k_B_1 k_B_2
        have hz3 := hb3.size
        have HB0_3 := hid (HB0_2.out.trans (hb3.mono HB0_2.out.size))
        have HVB_3 := hid ((hb3.block _ (by omega)).trans HVB_2.out)
        clear HB0_2 HVB_2
        clear hb3
        clear k0 k1 k2
        have HOL := hid (HO3.out.kept (grown_below (row := none) HB0_3.out) (by simp))
        have k_B_0 := (cell_of_row _ _ 0 _ _ _ HVB_3.out).trans rfl
        have k_B_1 := (cell_of_row _ _ 1 _ _ _ HVB_3.out).trans rfl
        have k_B_2 := (cell_of_row _ _ 2 _ _ _ HVB_3.out).trans rfl
        go_wp2_with (first
          | (refine wpList_len_own _ rfl _ 49 rfl 9 90 Tryz.underlying49 (unitElem (H := Unit)) s3 n3 (setD (H := Unit) ts) rfl HOL.out ?_)
          | (fail "no arm"))
        go_wp2
        go_ret
        exact ⟨by rw [HZ.out] <;> rfl, fun _ => HB0_3.out, fun h => absurd (HZ.out.symm.trans h) (by decide)⟩
      · have HZ : Hid (r = 0) := hid (by rw [HA.out, if_neg h200])
        have hge : decide ((200 : Int) ≤ (ts.length : Int)) = false := decide_eq_false (by omega)
        clear HA
        go_enter Tryz.func28, Tryz.ntmps28
        go_wp2_with (go_at_call 53; rw [← HW1.out]; refine (C2.out _ HB0_1.out).mono ?_; rintro e w2 ⟨rfl, hb2⟩; refine Hid.out ?_)
        refine hid ?_
        have hz2 := hb2.size
        have HB0_2 := hid (HB0_1.out.trans (hb2.mono HB0_1.out.size))
        have HVB_2 := hid ((hb2.block _ (by omega)).trans HVB_1.out)
        clear HB0_1 HVB_1
        clear hb2
        have k_B_0 := (cell_of_row _ _ 0 _ _ _ HVB_2.out).trans rfl
        have k_B_1 := (cell_of_row _ _ 1 _ _ _ HVB_2.out).trans rfl
        have k_B_2 := (cell_of_row _ _ 2 _ _ _ HVB_2.out).trans rfl
        obtain ⟨k0, k1, k2⟩ := three_refs HVB_2.out
        go_wp2_with (go_at_call 54; refine (CS.out _ HB0_2.out).mono ?_; rintro e w3 ⟨rfl, hb3⟩; refine Hid.out ?_)
        refine hid ?_
        clear k_B_0 k_B_1 k_B_2
        have hz3 := hb3.size
        have HB0_3 := hid (HB0_2.out.trans (hb3.mono HB0_2.out.size))
        have HVB_3 := hid ((hb3.block _ (by omega)).trans HVB_2.out)
        clear HB0_2 HVB_2
        clear hb3
        clear k0 k1 k2
        have HOD := hid (HO2.out.kept (grown_below (row := none) HB0_3.out) (by simp))
        have HOL := hid (HO3.out.kept (grown_below (row := none) HB0_3.out) (by simp))
        have k_B_0 := (cell_of_row _ _ 0 _ _ _ HVB_3.out).trans rfl
        have k_B_1 := (cell_of_row _ _ 1 _ _ _ HVB_3.out).trans rfl
        have k_B_2 := (cell_of_row _ _ 2 _ _ _ HVB_3.out).trans rfl
        go_wp2_with (first
          | (refine wpList_len_own _ rfl _ 49 rfl 9 90 Tryz.underlying49 (unitElem (H := Unit)) s3 n3 (setD (H := Unit) ts) rfl HOL.out ?_)
          | (at_delete; refine wpList_delete_own _ rfl _ _ 49 9 rfl 90 setKeyed Tryz.underlying49 (unitElem (H := Unit)) s2 n2 (setD (H := Unit) ask) rfl HOD.out _ _ rfl HKY.out ?_; intro w8 ho8 ht8; refine Hid.out ?_)
          | (fail "no arm"))
        refine hid ?_
        have hg8 := ht8.grown
        have hz8 := hg8.size
        have HO8 := hid ho8
        have HG8 := hid ((grown_below (row := some s2) HB0_3.out).trans hg8)
        have HT8 := hid (HOL.out.kept hg8 (by simp; omega))
        have HV8 := hid ((hg8.block w.heap.size (by omega) (fun e => by have e2 := Option.some.inj e; omega)).trans HVB_3.out)
        clear ho8 ht8 hg8
        obtain ⟨k0, k1, k2⟩ := three_refs HV8.out
        go_wp2_with (first
          | (go_at_call 55; refine (CP.out _ HT8.out).mono ?_; rintro e w9 ⟨rfl, ho9, hg9⟩; refine Hid.out ?_)
          | (fail "no arm"))
        refine hid ?_
        have HO9 := hid ho9
        have HG9 := hid hg9
        have HD9 := hid (HO8.out.kept hg9 (by simp; omega))
        clear ho9 hg9
        go_wp2
        go_ret
        exact ⟨by rw [HZ.out] <;> rfl, fun h => absurd HZ.out h, fun _ => ⟨_, HG8.out, HG9.out, HD9.out, HO9.out⟩⟩
  · rw [show decide (x.data.toList ∈ ask) = false from decide_eq_false m2] at C2
    have HZ : Hid (r = 5) := hid (by rw [HA.out, if_pos m2])
    clear HA m2
    go_enter Tryz.func28, Tryz.ntmps28
    go_wp2_with (go_at_call 53; rw [← HW1.out]; refine (C2.out _ HB0_1.out).mono ?_; rintro e w2 ⟨rfl, hb2⟩; refine Hid.out ?_)
    refine hid ?_
    have hz2 := hb2.size
    have HB0_2 := hid (HB0_1.out.trans (hb2.mono HB0_1.out.size))
    have HVB_2 := hid ((hb2.block _ (by omega)).trans HVB_1.out)
    clear HB0_1 HVB_1
    clear hb2
    go_wp2
    go_ret
    exact ⟨by rw [HZ.out] <;> rfl, fun _ => HB0_2.out, fun h => absurd (HZ.out.symm.trans h) (by decide)⟩
end Go.Proofs.YtjaaplcgphlccaaGreatDoor
