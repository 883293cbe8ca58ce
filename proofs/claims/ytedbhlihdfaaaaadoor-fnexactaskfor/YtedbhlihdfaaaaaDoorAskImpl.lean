/- A nonce asked for: the program's book. -/
import Derived.Test.YtedbhlihdfaaaaaDoorSetHas
import Derived.Test.YtedbhlihdfaaaaaDoorRelBoth
namespace Go.Proofs.YtedbhlihdfaaaaaDoor
open Go.RowKit Go.WideMaps Go.Maps
open Go.Lib (hid)

/-- What asking tells. -/
def askN {H : Type} (D2 D3 : DataW H) (x : ByteArray) : Int :=
  if (nodeOf x).1 = 0 then 2 else if has D2 (.string x.data.toList) = true ∨ has D3 (.string x.data.toList) = true then 3 else if 30 ≤ Maps.size D2 then 4 else 0

set_option maxRecDepth 20000 in
set_option maxHeartbeats 4000000 in
theorem askFor_calls {H : Type} (D2 D3 : DataW H) (s1 s2 s3 n2 n3 : Nat) (x : ByteArray) (hx : x.size ≤ maxLen) (hm : n2 < 1048576) (hsz : Maps.size D2 ≤ 1048576) (w : World)
    (o2 : w.ownsMap Tryd.prog 9 (unitElem (H := H)) s2 n2 D2) (o3 : w.ownsMap Tryd.prog 9 (unitElem (H := H)) s3 n3 D3) (hT : Tab w) (hG : 0 < w.heap.size) :
    Calls Tryd.prog 93 #[.agg #[.map (some s1), .map (some s2), .map (some s3)], .string x] w fun e w' => e = .returned (.int .i64 (askN D2 D3 x)) ∧
      (askN D2 D3 x ≠ 0 → Below w.heap.size w w') ∧ (askN D2 D3 x = 0 → w'.ownsMap Tryd.prog 9 (unitElem (H := H)) s2 (n2 + 1) (D2.put (.string x.data.toList) (.agg [])) ∧ w.grownBy w' (some s2)) := by
  have CK := hid (fun W (hB : Below w.heap.size w W) => kind_impl x W (tab_on hT hG hB) (Nat.lt_of_lt_of_le hG hB.size))
  have C2 := hid (fun W (hB : Below w.heap.size w W) => shas_calls D2 s2 n2 x W hx (o2.kept (grown_below (row := none) hB) (by simp)))
  have C3 := hid (fun W (hB : Below w.heap.size w W) => shas_calls D3 s3 n3 x W hx (o3.kept (grown_below (row := none) hB) (by simp)))
  have CP := hid (fun W (hB : Below w.heap.size w W) => sput_calls s2 n2 D2 x W hx (o2.kept (grown_below (row := none) hB) (by simp)) hm)
  have HO2 := hid o2
  have hs2 := o2.lt
  have HA : Hid (askN D2 D3 x = if (nodeOf x).1 = 0 then 2 else if has D2 (.string x.data.toList) = true ∨ has D3 (.string x.data.toList) = true then 3 else if 30 ≤ Maps.size D2 then 4 else 0) := hid rfl
  generalize askN D2 D3 x = r at *
  generalize (nodeOf x).1 = kd at *
  generalize has D2 (.string x.data.toList) = b2 at *
  generalize has D3 (.string x.data.toList) = b3 at *
  clear o2 o3 hT hG
  have HB0_0 : Hid (Below w.heap.size w w) := hid (Below.refl _ _)
  have hz0 : w.heap.size ≤ w.heap.size := Nat.le_refl _
  obtain ⟨w1, hw1⟩ : ∃ W, W = w.alloc (.cells #[.map (some s1), .map (some s2), .map (some s3)] 132) := ⟨_, rfl⟩
  have hb1 : Below w.heap.size w w1 := by rw [hw1]; exact (Below.refl _ _).alloc (Nat.le_refl _) _
  have hz1 : w.heap.size < w1.heap.size := by rw [hw1]; simp
  have HVB_1 : Hid (w1.heap[w.heap.size]? = some (.cells #[.map (some s1), .map (some s2), .map (some s3)] 132)) := hid (by rw [hw1]; exact heap_alloc_new _ _)
  have HW1 := hid hw1
  have HB0_1 := hid (HB0_0.out.trans (hb1.mono HB0_0.out.size))
  clear hw1 hb1
  by_cases hk : kd = 0
  · subst hk
    have HZ : Hid (r = 2) := hid (by rw [HA.out, if_pos rfl])
    clear HA
    go_enter Tryd.func93, Tryd.ntmps93
    go_wp2_with (go_at_call 178; rw [← HW1.out]; refine (CK.out _ HB0_1.out).mono ?_; rintro e w2 ⟨rfl, hb2⟩; refine Hid.out ?_)
    refine hid ?_
    have hz2 := hb2.size
    have HB0_2 := hid (HB0_1.out.trans (hb2.mono HB0_1.out.size))
    have HVB_2 := hid ((hb2.block _ (by omega)).trans HVB_1.out)
    clear HB0_1 HVB_1
    clear hb2
    go_wp2
    go_ret
    exact ⟨by rw [HZ.out] <;> rfl, fun _ => HB0_2.out, fun h => absurd (HZ.out.symm.trans h) (by decide)⟩
  · rw [if_neg hk] at HA
    have hkd : ((kd : Int) == 0) = false := by rw [beq_eq_false_iff_ne]; omega
    clear hk
    cases b2 with
    | true =>
      have HZ : Hid (r = 3) := hid (by rw [HA.out, if_pos (Or.inl rfl)])
      clear HA
      go_enter Tryd.func93, Tryd.ntmps93
      go_wp2_with (go_at_call 178; rw [← HW1.out]; refine (CK.out _ HB0_1.out).mono ?_; rintro e w2 ⟨rfl, hb2⟩; refine Hid.out ?_)
      refine hid ?_
      have hz2 := hb2.size
      have HB0_2 := hid (HB0_1.out.trans (hb2.mono HB0_1.out.size))
      have HVB_2 := hid ((hb2.block _ (by omega)).trans HVB_1.out)
      clear HB0_1 HVB_1
      clear hb2
      have k_B_0 := (cell_of_row _ _ 0 _ _ _ HVB_2.out).trans rfl
      have k_B_1 := (cell_of_row _ _ 1 _ _ _ HVB_2.out).trans rfl
      have k_B_2 := (cell_of_row _ _ 2 _ _ _ HVB_2.out).trans rfl
      go_wp2_with (go_at_call 179; refine (C2.out _ HB0_2.out).mono ?_; rintro e w3 ⟨rfl, hb3⟩; refine Hid.out ?_)
      refine hid ?_
      clear k_B_0 k_B_1 k_B_2
      have hz3 := hb3.size
      have HB0_3 := hid (HB0_2.out.trans (hb3.mono HB0_2.out.size))
      have HVB_3 := hid ((hb3.block _ (by omega)).trans HVB_2.out)
      clear HB0_2 HVB_2
      clear hb3
      go_wp2
      go_ret
      exact ⟨by rw [HZ.out] <;> rfl, fun _ => HB0_3.out, fun h => absurd (HZ.out.symm.trans h) (by decide)⟩
    | false =>
      cases b3 with
      | true =>
        have HZ : Hid (r = 3) := hid (by rw [HA.out, if_pos (Or.inr rfl)])
        clear HA
        go_enter Tryd.func93, Tryd.ntmps93
        go_wp2_with (go_at_call 178; rw [← HW1.out]; refine (CK.out _ HB0_1.out).mono ?_; rintro e w2 ⟨rfl, hb2⟩; refine Hid.out ?_)
        refine hid ?_
        have hz2 := hb2.size
        have HB0_2 := hid (HB0_1.out.trans (hb2.mono HB0_1.out.size))
        have HVB_2 := hid ((hb2.block _ (by omega)).trans HVB_1.out)
        clear HB0_1 HVB_1
        clear hb2
        have k_B_0 := (cell_of_row _ _ 0 _ _ _ HVB_2.out).trans rfl
        have k_B_1 := (cell_of_row _ _ 1 _ _ _ HVB_2.out).trans rfl
        have k_B_2 := (cell_of_row _ _ 2 _ _ _ HVB_2.out).trans rfl
        go_wp2_with (go_at_call 179; refine (C2.out _ HB0_2.out).mono ?_; rintro e w3 ⟨rfl, hb3⟩; refine Hid.out ?_)
        refine hid ?_
        clear k_B_0 k_B_1 k_B_2
        have hz3 := hb3.size
        have HB0_3 := hid (HB0_2.out.trans (hb3.mono HB0_2.out.size))
        have HVB_3 := hid ((hb3.block _ (by omega)).trans HVB_2.out)
        clear HB0_2 HVB_2
        clear hb3
        have k_B_0 := (cell_of_row _ _ 0 _ _ _ HVB_3.out).trans rfl
        have k_B_1 := (cell_of_row _ _ 1 _ _ _ HVB_3.out).trans rfl
        have k_B_2 := (cell_of_row _ _ 2 _ _ _ HVB_3.out).trans rfl
        go_wp2_with (go_at_call 179; refine (C3.out _ HB0_3.out).mono ?_; rintro e w4 ⟨rfl, hb4⟩; refine Hid.out ?_)
        refine hid ?_
        clear k_B_0 k_B_1 k_B_2
        have hz4 := hb4.size
        have HB0_4 := hid (HB0_3.out.trans (hb4.mono HB0_3.out.size))
        have HVB_4 := hid ((hb4.block _ (by omega)).trans HVB_3.out)
        clear HB0_3 HVB_3
        clear hb4
        go_wp2
        go_ret
        exact ⟨by rw [HZ.out] <;> rfl, fun _ => HB0_4.out, fun h => absurd (HZ.out.symm.trans h) (by decide)⟩
      | false =>
        rw [if_neg (fun h => by rcases h with h | h <;> cases h)] at HA
        by_cases h30 : 30 ≤ Maps.size D2
        · have HZ : Hid (r = 4) := hid (by rw [HA.out, if_pos h30])
          have hge : decide ((30 : Int) ≤ (Maps.size D2 : Int)) = true := decide_eq_true (by omega)
          clear HA
          go_enter Tryd.func93, Tryd.ntmps93
          go_wp2_with (go_at_call 178; rw [← HW1.out]; refine (CK.out _ HB0_1.out).mono ?_; rintro e w2 ⟨rfl, hb2⟩; refine Hid.out ?_)
          refine hid ?_
          have hz2 := hb2.size
          have HB0_2 := hid (HB0_1.out.trans (hb2.mono HB0_1.out.size))
          have HVB_2 := hid ((hb2.block _ (by omega)).trans HVB_1.out)
          clear HB0_1 HVB_1
          clear hb2
          have k_B_0 := (cell_of_row _ _ 0 _ _ _ HVB_2.out).trans rfl
          have k_B_1 := (cell_of_row _ _ 1 _ _ _ HVB_2.out).trans rfl
          have k_B_2 := (cell_of_row _ _ 2 _ _ _ HVB_2.out).trans rfl
          go_wp2_with (go_at_call 179; refine (C2.out _ HB0_2.out).mono ?_; rintro e w3 ⟨rfl, hb3⟩; refine Hid.out ?_)
          refine hid ?_
          clear k_B_0 k_B_1 k_B_2
          have hz3 := hb3.size
          have HB0_3 := hid (HB0_2.out.trans (hb3.mono HB0_2.out.size))
          have HVB_3 := hid ((hb3.block _ (by omega)).trans HVB_2.out)
          clear HB0_2 HVB_2
          clear hb3
          have k_B_0 := (cell_of_row _ _ 0 _ _ _ HVB_3.out).trans rfl
          have k_B_1 := (cell_of_row _ _ 1 _ _ _ HVB_3.out).trans rfl
          have k_B_2 := (cell_of_row _ _ 2 _ _ _ HVB_3.out).trans rfl
          go_wp2_with (go_at_call 179; refine (C3.out _ HB0_3.out).mono ?_; rintro e w4 ⟨rfl, hb4⟩; refine Hid.out ?_)
          refine hid ?_
          clear k_B_0 k_B_1 k_B_2
          have hz4 := hb4.size
          have HB0_4 := hid (HB0_3.out.trans (hb4.mono HB0_3.out.size))
          have HVB_4 := hid ((hb4.block _ (by omega)).trans HVB_3.out)
          clear HB0_3 HVB_3
          clear hb4
          have HOL := hid (HO2.out.kept (grown_below (row := none) HB0_4.out) (by simp))
          have k_B_0 := (cell_of_row _ _ 0 _ _ _ HVB_4.out).trans rfl
          have k_B_1 := (cell_of_row _ _ 1 _ _ _ HVB_4.out).trans rfl
          have k_B_2 := (cell_of_row _ _ 2 _ _ _ HVB_4.out).trans rfl
          go_wp2_with (first
            | (refine wpList_len_own _ rfl _ 130 rfl 9 290 Tryd.underlying130 (unitElem (H := H)) s2 n2 D2 rfl HOL.out ?_)
            | (fail "no arm"))
          go_ret
          exact ⟨by rw [HZ.out] <;> rfl, fun _ => HB0_4.out, fun h => absurd (HZ.out.symm.trans h) (by decide)⟩
        · have HZ : Hid (r = 0) := hid (by rw [HA.out, if_neg h30])
          have hge : decide ((30 : Int) ≤ (Maps.size D2 : Int)) = false := decide_eq_false (by omega)
          clear HA
          go_enter Tryd.func93, Tryd.ntmps93
          go_wp2_with (go_at_call 178; rw [← HW1.out]; refine (CK.out _ HB0_1.out).mono ?_; rintro e w2 ⟨rfl, hb2⟩; refine Hid.out ?_)
          refine hid ?_
          have hz2 := hb2.size
          have HB0_2 := hid (HB0_1.out.trans (hb2.mono HB0_1.out.size))
          have HVB_2 := hid ((hb2.block _ (by omega)).trans HVB_1.out)
          clear HB0_1 HVB_1
          clear hb2
          have k_B_0 := (cell_of_row _ _ 0 _ _ _ HVB_2.out).trans rfl
          have k_B_1 := (cell_of_row _ _ 1 _ _ _ HVB_2.out).trans rfl
          have k_B_2 := (cell_of_row _ _ 2 _ _ _ HVB_2.out).trans rfl
          go_wp2_with (go_at_call 179; refine (C2.out _ HB0_2.out).mono ?_; rintro e w3 ⟨rfl, hb3⟩; refine Hid.out ?_)
          refine hid ?_
          clear k_B_0 k_B_1 k_B_2
          have hz3 := hb3.size
          have HB0_3 := hid (HB0_2.out.trans (hb3.mono HB0_2.out.size))
          have HVB_3 := hid ((hb3.block _ (by omega)).trans HVB_2.out)
          clear HB0_2 HVB_2
          clear hb3
          have k_B_0 := (cell_of_row _ _ 0 _ _ _ HVB_3.out).trans rfl
          have k_B_1 := (cell_of_row _ _ 1 _ _ _ HVB_3.out).trans rfl
          have k_B_2 := (cell_of_row _ _ 2 _ _ _ HVB_3.out).trans rfl
          go_wp2_with (go_at_call 179; refine (C3.out _ HB0_3.out).mono ?_; rintro e w4 ⟨rfl, hb4⟩; refine Hid.out ?_)
          refine hid ?_
          clear k_B_0 k_B_1 k_B_2
          have hz4 := hb4.size
          have HB0_4 := hid (HB0_3.out.trans (hb4.mono HB0_3.out.size))
          have HVB_4 := hid ((hb4.block _ (by omega)).trans HVB_3.out)
          clear HB0_3 HVB_3
          clear hb4
          have HOL := hid (HO2.out.kept (grown_below (row := none) HB0_4.out) (by simp))
          have k_B_0 := (cell_of_row _ _ 0 _ _ _ HVB_4.out).trans rfl
          have k_B_1 := (cell_of_row _ _ 1 _ _ _ HVB_4.out).trans rfl
          have k_B_2 := (cell_of_row _ _ 2 _ _ _ HVB_4.out).trans rfl
          go_wp2_with (first
            | (refine wpList_len_own _ rfl _ 130 rfl 9 290 Tryd.underlying130 (unitElem (H := H)) s2 n2 D2 rfl HOL.out ?_)
            | (fail "no arm"))
          go_wp2_with (first
            | (go_at_call 180; refine (CP.out _ HB0_4.out).mono ?_; rintro e w9 ⟨rfl, ho9, hg9⟩; refine Hid.out ?_)
            | (fail "no arm"))
          refine hid ?_
          have HO9 := hid ho9
          have HG9 := hid hg9
          have HB9 := HB0_4.out
          clear ho9 hg9
          go_wp2
          go_ret
          exact ⟨by rw [HZ.out] <;> rfl, fun h => absurd HZ.out h, fun _ => ⟨HO9.out, (grown_below (row := some s2) HB9).trans HG9.out⟩⟩
end Go.Proofs.YtedbhlihdfaaaaaDoor
