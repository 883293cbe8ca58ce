/- A one that relies copied, by the specification. -/
import Derived.Test.YtjaaplcgphlccaaGreatDoorCopyKit
import Derived.Test.YtjaaplcgphlccaaGreatDoorTwoBox
import Derived.Test.YtjaaplcgphlccaaGreatDoorPolSpec
import Derived.Test.YtjaaplcgphlccaaGreatDoorPackAsk
import Derived.Test.YtjaaplcgphlccaaGreatDoorStructKit
namespace Go.Proofs.YtjaaplcgphlccaaGreatDoor
open Go.RowKit
open Go.Lib (hid)

theorem rel_three {W : World} {b : Nat} {x0 x1 x2 : Value} {t : TypeId} (h : W.heap[b]? = some (.cells #[x0, x1, x2] t)) :
    W.cell? ⟨b, 0, none⟩ = some x0 ∧ W.cell? ⟨b, 1, none⟩ = some x1 ∧ W.cell? ⟨b, 2, none⟩ = some x2 :=
  ⟨(cell_of_row W b 0 _ _ _ h).trans rfl, (cell_of_row W b 1 _ _ _ h).trans rfl, (cell_of_row W b 2 _ _ _ h).trans rfl⟩
theorem rel_below {B b : Nat} {w W : World} (h : Below B w W) (hb : B ≤ b) (x0 x1 x2 : Value) : Below B w (((W.setCell ⟨b, 0, none⟩ x0).setCell ⟨b, 1, none⟩ x1).setCell ⟨b, 2, none⟩ x2) :=
  ((h.setCell (p := ⟨b, 0, none⟩) hb _).setCell (p := ⟨b, 1, none⟩) hb _).setCell (p := ⟨b, 2, none⟩) hb _
theorem rel_step (b : Nat) (w : World) (x0 x1 x2 : Value) : Step b w (((w.setCell ⟨b, 0, none⟩ x0).setCell ⟨b, 1, none⟩ x1).setCell ⟨b, 2, none⟩ x2) := (((Step.refl _ _).setCell 0 _).setCell 1 _).setCell 2 _
theorem rel_own {w w' : World} {b base size n : Nat} {e : TypeId} {v : Value} {xs : List Value} (h : w.ownsRow base e size v n xs) (hb : b < base) (hs : Step b w w') : w'.ownsRow base e size v n xs := by
  refine ⟨h.1, ?_⟩
  rcases h.2 with hn | ⟨g, cap, cur, e1, hbg, hg, rest⟩
  · exact Or.inl hn
  · refine Or.inr ⟨g, cap, cur, e1, hbg, ?_, rest⟩
    rw [hs.block g (Array.getElem?_eq_some_iff.1 hg).1 (by omega)]
    exact hg

set_option maxRecDepth 20000 in
set_option maxHeartbeats 8000000 in
theorem lcopy_spec (is ask ts : List (List UInt8)) (n1 : is.length ≤ 1048576) (n2 : ask.length ≤ 1048576) (n3 : ts.length ≤ 1048576) (a1 a2 a3 : Value) (w : World) (h1 : TextsAt w a1 is) (h2 : TextsAt w a2 ask) (h3 : TextsAt w a3 ts) :
    Calls Tryz.prog 21 #[.agg #[a1, a2, a3]] w fun e w' => ∃ v1 v2 v3, e = .returned (.agg #[v1, v2, v3]) ∧ Below w.heap.size w w' ∧ Own3 w.heap.size w' v1 v2 v3 is ask ts := by
  obtain ⟨W0, hW0⟩ : ∃ W0, W0 = (w.alloc (.cells #[a1, a2, a3] 26)).alloc (.cells #[.slice none 0 0, .slice none 0 0, .slice none 0 0] 26) := ⟨_, rfl⟩
  have HB0 : Hid (Below w.heap.size w W0) := hid (by rw [hW0]; exact ((Below.refl _ _).alloc (Nat.le_refl _) _).alloc (by simp) _)
  have HV0 : Hid (W0.heap[w.heap.size]? = some (.cells #[a1, a2, a3] 26)) := hid (by rw [hW0]; exact heap_two_old _ _)
  have HZ0 : Hid (W0.heap[w.heap.size + 1]? = some (.cells #[.slice none 0 0, .slice none 0 0, .slice none 0 0] 26)) := hid (by rw [hW0]; exact heap_two_new _ _)
  have hz0 : w.heap.size + 1 < W0.heap.size := by rw [hW0]; simp
  have HW0 := hid hW0
  clear hW0
  have HF1 := hid (fun W (hW : Below (w.heap.size + 1) W0 W) => h1.on (HB0.out.trans (hW.mono (Nat.le_succ _))))
  have HF2 := hid (fun W (hW : Below (w.heap.size + 1) W0 W) => h2.on (HB0.out.trans (hW.mono (Nat.le_succ _))))
  have HF3 := hid (fun W (hW : Below (w.heap.size + 1) W0 W) => h3.on (HB0.out.trans (hW.mono (Nat.le_succ _))))
  clear h1 h2 h3
  have j0 : ∀ W : World, Below (w.heap.size + 1) W0 W → W.cell? ⟨w.heap.size, 0, none⟩ = some a1 := fun W hW => (rel_three ((hW.block _ (Nat.lt_succ_self _)).trans HV0.out)).1
  have j1 : ∀ W : World, Below (w.heap.size + 1) W0 W → W.cell? ⟨w.heap.size, 1, none⟩ = some a2 := fun W hW => (rel_three ((hW.block _ (Nat.lt_succ_self _)).trans HV0.out)).2.1
  have j2 : ∀ W : World, Below (w.heap.size + 1) W0 W → W.cell? ⟨w.heap.size, 2, none⟩ = some a3 := fun W hW => (rel_three ((hW.block _ (Nat.lt_succ_self _)).trans HV0.out)).2.2
  go_enter Tryz.func21, Tryz.ntmps21
  go_wp2
  rw [← HW0.out]
  refine wp_region_held_drew (S := fun w' => Below (w.heap.size + 1) W0 w') (by kernel_rfl) (Below.drew (Below.refl _ _)) (fun hHeld => ?_)
  refine take_dst (i := 1) 4 (v := ?_) rfl rfl (by kernel_rfl) (by kernel_rfl) (by kernel_rfl) (fun _ _ _ h => h) (Or.inl ⟨by rfl, ?_⟩) (by assumption) ?_
  case refine_2 => ((intro w hSw); (try dsimp only at hSw); go_simp; (try with_reducible rfl))
  try simp only [Act.put, List.setIfInBounds_toArray, List.set_cons_zero, List.set_cons_succ]
  refine take_dst (i := 2) 5 (v := ?_) rfl rfl (by kernel_rfl) (by kernel_rfl) (by kernel_rfl) (fun _ _ _ h => h) (Or.inl ⟨by rfl, ?_⟩) (by assumption) ?_
  case refine_2 => ((intro w hSw); (try dsimp only at hSw); go_simp; (try with_reducible rfl))
  try simp only [Act.put, List.setIfInBounds_toArray, List.set_cons_zero, List.set_cons_succ]
  refine take_dst (i := 5) 8 (v := ?_) rfl rfl (by kernel_rfl) (by kernel_rfl) (by kernel_rfl) (fun _ _ _ h => h) (Or.inl ⟨by rfl, ?_⟩) (by assumption) ?_
  case refine_2 => ((intro w hSw); (try dsimp only at hSw); go_simp; (try with_reducible rfl))
  try simp only [Act.put, List.setIfInBounds_toArray, List.set_cons_zero, List.set_cons_succ]
  refine take_dst (i := 6) 9 (v := ?_) rfl rfl (by kernel_rfl) (by kernel_rfl) (by kernel_rfl) (fun _ _ _ h => h) (Or.inl ⟨by rfl, ?_⟩) (by assumption) ?_
  case refine_2 => ((intro w hSw); (try dsimp only at hSw); go_simp; (try with_reducible rfl))
  try simp only [Act.put, List.setIfInBounds_toArray, List.set_cons_zero, List.set_cons_succ]
  refine take_dst (i := 9) 12 (v := ?_) rfl rfl (by kernel_rfl) (by kernel_rfl) (by kernel_rfl) (fun _ _ _ h => h) (Or.inl ⟨by rfl, ?_⟩) (by assumption) ?_
  case refine_2 => ((intro w hSw); (try dsimp only at hSw); go_simp; (try with_reducible rfl))
  try simp only [Act.put, List.setIfInBounds_toArray, List.set_cons_zero, List.set_cons_succ]
  refine take_dst (i := 10) 13 (v := ?_) rfl rfl (by kernel_rfl) (by kernel_rfl) (by kernel_rfl) (fun _ _ _ h => h) (Or.inl ⟨by rfl, ?_⟩) (by assumption) ?_
  case refine_2 => ((intro w hSw); (try dsimp only at hSw); go_simp; (try with_reducible rfl))
  try simp only [Act.put, List.setIfInBounds_toArray, List.set_cons_zero, List.set_cons_succ]
  clear j0 j1 j2 hHeld
  have hHeld : Below W0.heap.size W0 W0.drew := Below.drew (Below.refl _ _)
  generalize W0.drew = y0 at *
  refine wpAnyH_ready (rs := [0, 4, 8]) (by kernel_rfl) (by simp) ?_
  refine AllReadyH.cons rfl (fun K hK => ?_) (AllReadyH.cons rfl (fun K hK => ?_) (AllReadyH.cons rfl (fun K hK => ?_) AllReadyH.nil))
  · skip
    go_simp
    have hN := copy_made y0 9 1 (W0.heap.size) hHeld.size
    have hS2 := hHeld.alloc hHeld.size (.cells #[] 9)
    refine hK.out _ _ (hS2.mono (Nat.le_of_lt hz0)) (fun hHeld2 => ?_)
    clear hK K hHeld2 hHeld 
    try simp only [Act.put, List.setIfInBounds_toArray, List.set_cons_zero, List.set_cons_succ]
    generalize y0.alloc (.cells #[] 9) = y1 at *
    generalize (Value.slice (some ⟨y0.heap.size, 0, none⟩) 0 0) = s_a at *
    have o_a := hN
    clear hN
    have hHeld := hS2
    clear hS2
    refine wpAnyH_ready (rs := [3, 4, 8]) (by kernel_rfl) (by simp) ?_
    refine AllReadyH.cons rfl (fun K hK => ?_) (AllReadyH.cons rfl (fun K hK => ?_) (AllReadyH.cons rfl (fun K hK => ?_) AllReadyH.nil))
    · skip
      refine step_append_any rfl (.tmp 3) (.tmp 5) rfl (W0.heap.size) s_a 0 [] (by rfl) o_a a1 is (by rfl) (HF1.out _ (hHeld.mono (Nat.le_of_lt hz0))) (by simp; omega) hHeld.size ?_
      intro va y2 hN hg hv
      rw [Nat.zero_add, List.nil_append] at hN
      have hS2 := below_grown hHeld o_a hg (Nat.le_refl _) hHeld.size
      clear hg hv hHeld o_a 
      obtain ⟨q_a, c_a, rfl⟩ := touch_slice hN
      have o_a := hN
      clear hN
      refine hK.out _ _ (hS2.mono (Nat.le_of_lt hz0)) (fun _ => ?_)
      clear hK K
      have hHeld := hS2
      clear hS2
      try simp only [Act.put, List.setIfInBounds_toArray]
      refine wpAnyH_ready (rs := [4, 8]) (by kernel_rfl) (by simp) ?_
      refine AllReadyH.cons rfl (fun K hK => ?_) (AllReadyH.cons rfl (fun K hK => ?_) AllReadyH.nil)
      · skip
        go_simp
        have hN := copy_made y2 9 1 (W0.heap.size) hHeld.size
        have hA_a := apart_new o_a
        have hK_a := kept_made o_a (.cells #[] 9)
        have hS2 := hHeld.alloc hHeld.size (.cells #[] 9)
        refine hK.out _ _ (hS2.mono (Nat.le_of_lt hz0)) (fun hHeld2 => ?_)
        clear hK K hHeld2 hHeld o_a
        try simp only [Act.put, List.setIfInBounds_toArray, List.set_cons_zero, List.set_cons_succ]
        generalize y2.alloc (.cells #[] 9) = y3 at *
        generalize (Value.slice (some ⟨y2.heap.size, 0, none⟩) 0 0) = s_b at *
        have A_a_b : ApartV (.slice q_a is.length c_a) s_b := hA_a
        clear hA_a
        have o_a := hK_a
        clear hK_a
        have o_b := hN
        clear hN
        have hHeld := hS2
        clear hS2
        refine wpAnyH_ready (rs := [7, 8]) (by kernel_rfl) (by simp) ?_
        refine AllReadyH.cons rfl (fun K hK => ?_) (AllReadyH.cons rfl (fun K hK => ?_) AllReadyH.nil)
        · skip
          refine step_append_any rfl (.tmp 7) (.tmp 9) rfl (W0.heap.size) s_b 0 [] (by rfl) o_b a2 ask (by rfl) (HF2.out _ (hHeld.mono (Nat.le_of_lt hz0))) (by simp; omega) hHeld.size ?_
          intro vb y4 hN hg hv
          rw [Nat.zero_add, List.nil_append] at hN
          have hS2 := below_grown hHeld o_b hg (Nat.le_refl _) hHeld.size
          have hK_a := kept_grown o_a hg (A_a_b)
          have hA_a := apart_grown o_a hv (A_a_b)
          clear hg hv hHeld o_a o_b A_a_b
          obtain ⟨q_b, c_b, rfl⟩ := touch_slice hN
          have A_a_b := hA_a
          have o_a := hK_a
          clear hA_a hK_a
          have o_b := hN
          clear hN
          refine hK.out _ _ (hS2.mono (Nat.le_of_lt hz0)) (fun _ => ?_)
          clear hK K
          have hHeld := hS2
          clear hS2
          try simp only [Act.put, List.setIfInBounds_toArray]
          refine wpAnyH_ready (rs := [8]) (by kernel_rfl) (by simp) ?_
          refine AllReadyH.cons rfl (fun K hK => ?_) AllReadyH.nil
          go_simp
          have hN := copy_made y4 9 1 (W0.heap.size) hHeld.size
          have hA_a := apart_new o_a
          have hK_a := kept_made o_a (.cells #[] 9)
          have hA_b := apart_new o_b
          have hK_b := kept_made o_b (.cells #[] 9)
          have hS2 := hHeld.alloc hHeld.size (.cells #[] 9)
          refine hK.out _ _ (hS2.mono (Nat.le_of_lt hz0)) (fun hHeld2 => ?_)
          clear hK K hHeld2 hHeld o_a o_b
          try simp only [Act.put, List.setIfInBounds_toArray, List.set_cons_zero, List.set_cons_succ]
          generalize y4.alloc (.cells #[] 9) = y5 at *
          generalize (Value.slice (some ⟨y4.heap.size, 0, none⟩) 0 0) = s_c at *
          have A_a_c : ApartV (.slice q_a is.length c_a) s_c := hA_a
          clear hA_a
          have A_b_c : ApartV (.slice q_b ask.length c_b) s_c := hA_b
          clear hA_b
          have o_a := hK_a
          clear hK_a
          have o_b := hK_b
          clear hK_b
          have o_c := hN
          clear hN
          have hHeld := hS2
          clear hS2
          refine wpAnyH_ready (rs := [11]) (by kernel_rfl) (by simp) ?_
          refine AllReadyH.cons rfl (fun K hK => ?_) AllReadyH.nil
          refine step_append_any rfl (.tmp 11) (.tmp 13) rfl (W0.heap.size) s_c 0 [] (by rfl) o_c a3 ts (by rfl) (HF3.out _ (hHeld.mono (Nat.le_of_lt hz0))) (by simp; omega) hHeld.size ?_
          intro vc y6 hN hg hv
          rw [Nat.zero_add, List.nil_append] at hN
          have hS2 := below_grown hHeld o_c hg (Nat.le_refl _) hHeld.size
          have hK_a := kept_grown o_a hg (A_a_c)
          have hA_a := apart_grown o_a hv (A_a_c)
          have hK_b := kept_grown o_b hg (A_b_c)
          have hA_b := apart_grown o_b hv (A_b_c)
          clear hg hv hHeld o_a o_b o_c A_a_c A_b_c
          obtain ⟨q_c, c_c, rfl⟩ := touch_slice hN
          have A_a_c := hA_a
          have o_a := hK_a
          clear hA_a hK_a
          have A_b_c := hA_b
          have o_b := hK_b
          clear hA_b hK_b
          have o_c := hN
          clear hN
          refine hK.out _ _ (hS2.mono (Nat.le_of_lt hz0)) (fun _ => ?_)
          clear hK K
          have hHeld := hS2
          clear hS2
          try simp only [Act.put, List.setIfInBounds_toArray]
          have hSS := hHeld.mono (Nat.le_of_lt hz0)
          refine take_dst (i := 12) 15 (v := ?_) rfl rfl (by kernel_rfl) (by kernel_rfl) (by kernel_rfl) (fun _ _ _ h => h) (Or.inl ⟨by rfl, ?_⟩) (by assumption) ?_
          case refine_2 => ((intro w hSw); (try dsimp only at hSw); go_simp; (try with_reducible rfl))
          try simp only [Act.put]
          refine wpAnyH_ready (rs := [13]) (by kernel_rfl) (by simp) ?_
          refine AllReadyH.cons rfl (fun K hK => ?_) AllReadyH.nil
          have HZ3 := hid ((hHeld.block (w.heap.size + 1) hz0).trans HZ0.out)
          obtain ⟨z0, z1, z2⟩ := rel_three HZ3.out
          have f0 := st_thaw HZ3.out 0
          have f1 := st_thaw HZ3.out 1
          have f2 := st_thaw HZ3.out 2
          go_simp
          refine hK.out _ _ (rel_below hSS (Nat.le_refl _) _ _ _) (fun hS3 => ?_)
          clear hK K
          try simp only [Act.put]
          refine wpAnyH_done (by kernel_rfl) ?_ _
          have HB3 := hid (HB0.out.trans (hSS.mono (Nat.le_succ _)))
          have HO := hid (show Own3 w.heap.size (((y6.setCell ⟨w.heap.size + 1, 0, none⟩ (.slice q_a is.length c_a)).setCell ⟨w.heap.size + 1, 1, none⟩ (.slice q_b ask.length c_b)).setCell ⟨w.heap.size + 1, 2, none⟩ (.slice q_c ts.length c_c)) (.slice q_a is.length c_a) (.slice q_b ask.length c_b) (.slice q_c ts.length c_c) is ask ts from
            ⟨own_base (rel_own o_a hz0 (rel_step _ _ _ _ _)) HB0.out.size, own_base (rel_own o_b hz0 (rel_step _ _ _ _ _)) HB0.out.size, own_base (rel_own o_c hz0 (rel_step _ _ _ _ _)) HB0.out.size, A_a_b, A_a_c, A_b_c⟩)
          clear o_a o_b o_c A_a_b A_a_c A_b_c hHeld hS3 hSS
          go_wp2
          exact bodyPost_ret (v := .agg #[(.slice q_a is.length c_a), (.slice q_b ask.length c_b), (.slice q_c ts.length c_c)]) (by simp [results, Tryz.results21, go_sem, z0, z1, z2]) rfl ⟨_, _, _, rfl, rel_below HB3.out (Nat.le_succ _) _ _ _, HO.out⟩
        · skip
          go_simp
          have hN := copy_made y3 9 1 (W0.heap.size) hHeld.size
          have hA_a := apart_new o_a
          have hK_a := kept_made o_a (.cells #[] 9)
          have hA_b := apart_new o_b
          have hK_b := kept_made o_b (.cells #[] 9)
          have hS2 := hHeld.alloc hHeld.size (.cells #[] 9)
          refine hK.out _ _ (hS2.mono (Nat.le_of_lt hz0)) (fun hHeld2 => ?_)
          clear hK K hHeld2 hHeld o_a o_b
          try simp only [Act.put, List.setIfInBounds_toArray, List.set_cons_zero, List.set_cons_succ]
          generalize y3.alloc (.cells #[] 9) = y7 at *
          generalize (Value.slice (some ⟨y3.heap.size, 0, none⟩) 0 0) = s_c at *
          have A_a_c : ApartV (.slice q_a is.length c_a) s_c := hA_a
          clear hA_a
          have A_b_c : ApartV s_b s_c := hA_b
          clear hA_b
          have o_a := hK_a
          clear hK_a
          have o_b := hK_b
          clear hK_b
          have o_c := hN
          clear hN
          have hHeld := hS2
          clear hS2
          refine wpAnyH_ready (rs := [7]) (by kernel_rfl) (by simp) ?_
          refine AllReadyH.cons rfl (fun K hK => ?_) AllReadyH.nil
          refine step_append_any rfl (.tmp 7) (.tmp 9) rfl (W0.heap.size) s_b 0 [] (by rfl) o_b a2 ask (by rfl) (HF2.out _ (hHeld.mono (Nat.le_of_lt hz0))) (by simp; omega) hHeld.size ?_
          intro vb y8 hN hg hv
          rw [Nat.zero_add, List.nil_append] at hN
          have hS2 := below_grown hHeld o_b hg (Nat.le_refl _) hHeld.size
          have hK_a := kept_grown o_a hg (A_a_b)
          have hA_a := apart_grown o_a hv (A_a_b)
          have hK_c := kept_grown o_c hg (A_b_c.symm)
          have hA_c := apart_grown o_c hv (A_b_c.symm)
          clear hg hv hHeld o_a o_b o_c A_a_b A_b_c
          obtain ⟨q_b, c_b, rfl⟩ := touch_slice hN
          have A_a_b := hA_a
          have o_a := hK_a
          clear hA_a hK_a
          have A_b_c := hA_c.symm
          have o_c := hK_c
          clear hA_c hK_c
          have o_b := hN
          clear hN
          refine hK.out _ _ (hS2.mono (Nat.le_of_lt hz0)) (fun _ => ?_)
          clear hK K
          have hHeld := hS2
          clear hS2
          try simp only [Act.put, List.setIfInBounds_toArray]
          refine wpAnyH_ready (rs := [11]) (by kernel_rfl) (by simp) ?_
          refine AllReadyH.cons rfl (fun K hK => ?_) AllReadyH.nil
          refine step_append_any rfl (.tmp 11) (.tmp 13) rfl (W0.heap.size) s_c 0 [] (by rfl) o_c a3 ts (by rfl) (HF3.out _ (hHeld.mono (Nat.le_of_lt hz0))) (by simp; omega) hHeld.size ?_
          intro vc y9 hN hg hv
          rw [Nat.zero_add, List.nil_append] at hN
          have hS2 := below_grown hHeld o_c hg (Nat.le_refl _) hHeld.size
          have hK_a := kept_grown o_a hg (A_a_c)
          have hA_a := apart_grown o_a hv (A_a_c)
          have hK_b := kept_grown o_b hg (A_b_c)
          have hA_b := apart_grown o_b hv (A_b_c)
          clear hg hv hHeld o_a o_b o_c A_a_c A_b_c
          obtain ⟨q_c, c_c, rfl⟩ := touch_slice hN
          have A_a_c := hA_a
          have o_a := hK_a
          clear hA_a hK_a
          have A_b_c := hA_b
          have o_b := hK_b
          clear hA_b hK_b
          have o_c := hN
          clear hN
          refine hK.out _ _ (hS2.mono (Nat.le_of_lt hz0)) (fun _ => ?_)
          clear hK K
          have hHeld := hS2
          clear hS2
          try simp only [Act.put]
          have hSS := hHeld.mono (Nat.le_of_lt hz0)
          refine take_dst (i := 12) 15 (v := ?_) rfl rfl (by kernel_rfl) (by kernel_rfl) (by kernel_rfl) (fun _ _ _ h => h) (Or.inl ⟨by rfl, ?_⟩) (by assumption) ?_
          case refine_2 => ((intro w hSw); (try dsimp only at hSw); go_simp; (try with_reducible rfl))
          try simp only [Act.put]
          refine wpAnyH_ready (rs := [13]) (by kernel_rfl) (by simp) ?_
          refine AllReadyH.cons rfl (fun K hK => ?_) AllReadyH.nil
          have HZ3 := hid ((hHeld.block (w.heap.size + 1) hz0).trans HZ0.out)
          obtain ⟨z0, z1, z2⟩ := rel_three HZ3.out
          have f0 := st_thaw HZ3.out 0
          have f1 := st_thaw HZ3.out 1
          have f2 := st_thaw HZ3.out 2
          go_simp
          refine hK.out _ _ (rel_below hSS (Nat.le_refl _) _ _ _) (fun hS3 => ?_)
          clear hK K
          try simp only [Act.put]
          refine wpAnyH_done (by kernel_rfl) ?_ _
          have HB3 := hid (HB0.out.trans (hSS.mono (Nat.le_succ _)))
          have HO := hid (show Own3 w.heap.size (((y9.setCell ⟨w.heap.size + 1, 0, none⟩ (.slice q_a is.length c_a)).setCell ⟨w.heap.size + 1, 1, none⟩ (.slice q_b ask.length c_b)).setCell ⟨w.heap.size + 1, 2, none⟩ (.slice q_c ts.length c_c)) (.slice q_a is.length c_a) (.slice q_b ask.length c_b) (.slice q_c ts.length c_c) is ask ts from
            ⟨own_base (rel_own o_a hz0 (rel_step _ _ _ _ _)) HB0.out.size, own_base (rel_own o_b hz0 (rel_step _ _ _ _ _)) HB0.out.size, own_base (rel_own o_c hz0 (rel_step _ _ _ _ _)) HB0.out.size, A_a_b, A_a_c, A_b_c⟩)
          clear o_a o_b o_c A_a_b A_a_c A_b_c hHeld hS3 hSS
          go_wp2
          exact bodyPost_ret (v := .agg #[(.slice q_a is.length c_a), (.slice q_b ask.length c_b), (.slice q_c ts.length c_c)]) (by simp [results, Tryz.results21, go_sem, z0, z1, z2]) rfl ⟨_, _, _, rfl, rel_below HB3.out (Nat.le_succ _) _ _ _, HO.out⟩
      · skip
        go_simp
        have hN := copy_made y2 9 1 (W0.heap.size) hHeld.size
        have hA_a := apart_new o_a
        have hK_a := kept_made o_a (.cells #[] 9)
        have hS2 := hHeld.alloc hHeld.size (.cells #[] 9)
        refine hK.out _ _ (hS2.mono (Nat.le_of_lt hz0)) (fun hHeld2 => ?_)
        clear hK K hHeld2 hHeld o_a
        try simp only [Act.put, List.setIfInBounds_toArray, List.set_cons_zero, List.set_cons_succ]
        generalize y2.alloc (.cells #[] 9) = y10 at *
        generalize (Value.slice (some ⟨y2.heap.size, 0, none⟩) 0 0) = s_c at *
        have A_a_c : ApartV (.slice q_a is.length c_a) s_c := hA_a
        clear hA_a
        have o_a := hK_a
        clear hK_a
        have o_c := hN
        clear hN
        have hHeld := hS2
        clear hS2
        refine wpAnyH_ready (rs := [4]) (by kernel_rfl) (by simp) ?_
        refine AllReadyH.cons rfl (fun K hK => ?_) AllReadyH.nil
        go_simp
        have hN := copy_made y10 9 1 (W0.heap.size) hHeld.size
        have hA_a := apart_new o_a
        have hK_a := kept_made o_a (.cells #[] 9)
        have hA_c := apart_new o_c
        have hK_c := kept_made o_c (.cells #[] 9)
        have hS2 := hHeld.alloc hHeld.size (.cells #[] 9)
        refine hK.out _ _ (hS2.mono (Nat.le_of_lt hz0)) (fun hHeld2 => ?_)
        clear hK K hHeld2 hHeld o_a o_c
        try simp only [Act.put, List.setIfInBounds_toArray, List.set_cons_zero, List.set_cons_succ]
        generalize y10.alloc (.cells #[] 9) = y11 at *
        generalize (Value.slice (some ⟨y10.heap.size, 0, none⟩) 0 0) = s_b at *
        have A_a_b : ApartV (.slice q_a is.length c_a) s_b := hA_a
        clear hA_a
        have A_b_c : ApartV s_b s_c := hA_c.symm
        clear hA_c
        have o_a := hK_a
        clear hK_a
        have o_c := hK_c
        clear hK_c
        have o_b := hN
        clear hN
        have hHeld := hS2
        clear hS2
        refine wpAnyH_ready (rs := [7]) (by kernel_rfl) (by simp) ?_
        refine AllReadyH.cons rfl (fun K hK => ?_) AllReadyH.nil
        refine step_append_any rfl (.tmp 7) (.tmp 9) rfl (W0.heap.size) s_b 0 [] (by rfl) o_b a2 ask (by rfl) (HF2.out _ (hHeld.mono (Nat.le_of_lt hz0))) (by simp; omega) hHeld.size ?_
        intro vb y12 hN hg hv
        rw [Nat.zero_add, List.nil_append] at hN
        have hS2 := below_grown hHeld o_b hg (Nat.le_refl _) hHeld.size
        have hK_a := kept_grown o_a hg (A_a_b)
        have hA_a := apart_grown o_a hv (A_a_b)
        have hK_c := kept_grown o_c hg (A_b_c.symm)
        have hA_c := apart_grown o_c hv (A_b_c.symm)
        clear hg hv hHeld o_a o_c o_b A_a_b A_b_c
        obtain ⟨q_b, c_b, rfl⟩ := touch_slice hN
        have A_a_b := hA_a
        have o_a := hK_a
        clear hA_a hK_a
        have A_b_c := hA_c.symm
        have o_c := hK_c
        clear hA_c hK_c
        have o_b := hN
        clear hN
        refine hK.out _ _ (hS2.mono (Nat.le_of_lt hz0)) (fun _ => ?_)
        clear hK K
        have hHeld := hS2
        clear hS2
        try simp only [Act.put, List.setIfInBounds_toArray]
        refine wpAnyH_ready (rs := [11]) (by kernel_rfl) (by simp) ?_
        refine AllReadyH.cons rfl (fun K hK => ?_) AllReadyH.nil
        refine step_append_any rfl (.tmp 11) (.tmp 13) rfl (W0.heap.size) s_c 0 [] (by rfl) o_c a3 ts (by rfl) (HF3.out _ (hHeld.mono (Nat.le_of_lt hz0))) (by simp; omega) hHeld.size ?_
        intro vc y13 hN hg hv
        rw [Nat.zero_add, List.nil_append] at hN
        have hS2 := below_grown hHeld o_c hg (Nat.le_refl _) hHeld.size
        have hK_a := kept_grown o_a hg (A_a_c)
        have hA_a := apart_grown o_a hv (A_a_c)
        have hK_b := kept_grown o_b hg (A_b_c)
        have hA_b := apart_grown o_b hv (A_b_c)
        clear hg hv hHeld o_a o_c o_b A_a_c A_b_c
        obtain ⟨q_c, c_c, rfl⟩ := touch_slice hN
        have A_a_c := hA_a
        have o_a := hK_a
        clear hA_a hK_a
        have A_b_c := hA_b
        have o_b := hK_b
        clear hA_b hK_b
        have o_c := hN
        clear hN
        refine hK.out _ _ (hS2.mono (Nat.le_of_lt hz0)) (fun _ => ?_)
        clear hK K
        have hHeld := hS2
        clear hS2
        try simp only [Act.put]
        have hSS := hHeld.mono (Nat.le_of_lt hz0)
        refine take_dst (i := 12) 15 (v := ?_) rfl rfl (by kernel_rfl) (by kernel_rfl) (by kernel_rfl) (fun _ _ _ h => h) (Or.inl ⟨by rfl, ?_⟩) (by assumption) ?_
        case refine_2 => ((intro w hSw); (try dsimp only at hSw); go_simp; (try with_reducible rfl))
        try simp only [Act.put]
        refine wpAnyH_ready (rs := [13]) (by kernel_rfl) (by simp) ?_
        refine AllReadyH.cons rfl (fun K hK => ?_) AllReadyH.nil
        have HZ3 := hid ((hHeld.block (w.heap.size + 1) hz0).trans HZ0.out)
        obtain ⟨z0, z1, z2⟩ := rel_three HZ3.out
        have f0 := st_thaw HZ3.out 0
        have f1 := st_thaw HZ3.out 1
        have f2 := st_thaw HZ3.out 2
        go_simp
        refine hK.out _ _ (rel_below hSS (Nat.le_refl _) _ _ _) (fun hS3 => ?_)
        clear hK K
        try simp only [Act.put]
        refine wpAnyH_done (by kernel_rfl) ?_ _
        have HB3 := hid (HB0.out.trans (hSS.mono (Nat.le_succ _)))
        have HO := hid (show Own3 w.heap.size (((y13.setCell ⟨w.heap.size + 1, 0, none⟩ (.slice q_a is.length c_a)).setCell ⟨w.heap.size + 1, 1, none⟩ (.slice q_b ask.length c_b)).setCell ⟨w.heap.size + 1, 2, none⟩ (.slice q_c ts.length c_c)) (.slice q_a is.length c_a) (.slice q_b ask.length c_b) (.slice q_c ts.length c_c) is ask ts from
          ⟨own_base (rel_own o_a hz0 (rel_step _ _ _ _ _)) HB0.out.size, own_base (rel_own o_b hz0 (rel_step _ _ _ _ _)) HB0.out.size, own_base (rel_own o_c hz0 (rel_step _ _ _ _ _)) HB0.out.size, A_a_b, A_a_c, A_b_c⟩)
        clear o_a o_b o_c A_a_b A_a_c A_b_c hHeld hS3 hSS
        go_wp2
        exact bodyPost_ret (v := .agg #[(.slice q_a is.length c_a), (.slice q_b ask.length c_b), (.slice q_c ts.length c_c)]) (by simp [results, Tryz.results21, go_sem, z0, z1, z2]) rfl ⟨_, _, _, rfl, rel_below HB3.out (Nat.le_succ _) _ _ _, HO.out⟩
    · skip
      go_simp
      have hN := copy_made y1 9 1 (W0.heap.size) hHeld.size
      have hA_a := apart_new o_a
      have hK_a := kept_made o_a (.cells #[] 9)
      have hS2 := hHeld.alloc hHeld.size (.cells #[] 9)
      refine hK.out _ _ (hS2.mono (Nat.le_of_lt hz0)) (fun hHeld2 => ?_)
      clear hK K hHeld2 hHeld o_a
      try simp only [Act.put, List.setIfInBounds_toArray, List.set_cons_zero, List.set_cons_succ]
      generalize y1.alloc (.cells #[] 9) = y14 at *
      generalize (Value.slice (some ⟨y1.heap.size, 0, none⟩) 0 0) = s_b at *
      have A_a_b : ApartV s_a s_b := hA_a
      clear hA_a
      have o_a := hK_a
      clear hK_a
      have o_b := hN
      clear hN
      have hHeld := hS2
      clear hS2
      refine wpAnyH_ready (rs := [3, 8]) (by kernel_rfl) (by simp) ?_
      refine AllReadyH.cons rfl (fun K hK => ?_) (AllReadyH.cons rfl (fun K hK => ?_) AllReadyH.nil)
      · skip
        refine step_append_any rfl (.tmp 3) (.tmp 5) rfl (W0.heap.size) s_a 0 [] (by rfl) o_a a1 is (by rfl) (HF1.out _ (hHeld.mono (Nat.le_of_lt hz0))) (by simp; omega) hHeld.size ?_
        intro va y15 hN hg hv
        rw [Nat.zero_add, List.nil_append] at hN
        have hS2 := below_grown hHeld o_a hg (Nat.le_refl _) hHeld.size
        have hK_b := kept_grown o_b hg (A_a_b.symm)
        have hA_b := apart_grown o_b hv (A_a_b.symm)
        clear hg hv hHeld o_a o_b A_a_b
        obtain ⟨q_a, c_a, rfl⟩ := touch_slice hN
        have A_a_b := hA_b.symm
        have o_b := hK_b
        clear hA_b hK_b
        have o_a := hN
        clear hN
        refine hK.out _ _ (hS2.mono (Nat.le_of_lt hz0)) (fun _ => ?_)
        clear hK K
        have hHeld := hS2
        clear hS2
        try simp only [Act.put, List.setIfInBounds_toArray]
        refine wpAnyH_ready (rs := [7, 8]) (by kernel_rfl) (by simp) ?_
        refine AllReadyH.cons rfl (fun K hK => ?_) (AllReadyH.cons rfl (fun K hK => ?_) AllReadyH.nil)
        · skip
          refine step_append_any rfl (.tmp 7) (.tmp 9) rfl (W0.heap.size) s_b 0 [] (by rfl) o_b a2 ask (by rfl) (HF2.out _ (hHeld.mono (Nat.le_of_lt hz0))) (by simp; omega) hHeld.size ?_
          intro vb y16 hN hg hv
          rw [Nat.zero_add, List.nil_append] at hN
          have hS2 := below_grown hHeld o_b hg (Nat.le_refl _) hHeld.size
          have hK_a := kept_grown o_a hg (A_a_b)
          have hA_a := apart_grown o_a hv (A_a_b)
          clear hg hv hHeld o_a o_b A_a_b
          obtain ⟨q_b, c_b, rfl⟩ := touch_slice hN
          have A_a_b := hA_a
          have o_a := hK_a
          clear hA_a hK_a
          have o_b := hN
          clear hN
          refine hK.out _ _ (hS2.mono (Nat.le_of_lt hz0)) (fun _ => ?_)
          clear hK K
          have hHeld := hS2
          clear hS2
          try simp only [Act.put]
          refine wpAnyH_ready (rs := [8]) (by kernel_rfl) (by simp) ?_
          refine AllReadyH.cons rfl (fun K hK => ?_) AllReadyH.nil
          go_simp
          have hN := copy_made y16 9 1 (W0.heap.size) hHeld.size
          have hA_a := apart_new o_a
          have hK_a := kept_made o_a (.cells #[] 9)
          have hA_b := apart_new o_b
          have hK_b := kept_made o_b (.cells #[] 9)
          have hS2 := hHeld.alloc hHeld.size (.cells #[] 9)
          refine hK.out _ _ (hS2.mono (Nat.le_of_lt hz0)) (fun hHeld2 => ?_)
          clear hK K hHeld2 hHeld o_a o_b
          try simp only [Act.put, List.setIfInBounds_toArray, List.set_cons_zero, List.set_cons_succ]
          generalize y16.alloc (.cells #[] 9) = y17 at *
          generalize (Value.slice (some ⟨y16.heap.size, 0, none⟩) 0 0) = s_c at *
          have A_a_c : ApartV (.slice q_a is.length c_a) s_c := hA_a
          clear hA_a
          have A_b_c : ApartV (.slice q_b ask.length c_b) s_c := hA_b
          clear hA_b
          have o_a := hK_a
          clear hK_a
          have o_b := hK_b
          clear hK_b
          have o_c := hN
          clear hN
          have hHeld := hS2
          clear hS2
          refine wpAnyH_ready (rs := [11]) (by kernel_rfl) (by simp) ?_
          refine AllReadyH.cons rfl (fun K hK => ?_) AllReadyH.nil
          refine step_append_any rfl (.tmp 11) (.tmp 13) rfl (W0.heap.size) s_c 0 [] (by rfl) o_c a3 ts (by rfl) (HF3.out _ (hHeld.mono (Nat.le_of_lt hz0))) (by simp; omega) hHeld.size ?_
          intro vc y18 hN hg hv
          rw [Nat.zero_add, List.nil_append] at hN
          have hS2 := below_grown hHeld o_c hg (Nat.le_refl _) hHeld.size
          have hK_a := kept_grown o_a hg (A_a_c)
          have hA_a := apart_grown o_a hv (A_a_c)
          have hK_b := kept_grown o_b hg (A_b_c)
          have hA_b := apart_grown o_b hv (A_b_c)
          clear hg hv hHeld o_a o_b o_c A_a_c A_b_c
          obtain ⟨q_c, c_c, rfl⟩ := touch_slice hN
          have A_a_c := hA_a
          have o_a := hK_a
          clear hA_a hK_a
          have A_b_c := hA_b
          have o_b := hK_b
          clear hA_b hK_b
          have o_c := hN
          clear hN
          refine hK.out _ _ (hS2.mono (Nat.le_of_lt hz0)) (fun _ => ?_)
          clear hK K
          have hHeld := hS2
          clear hS2
          try simp only [Act.put, List.setIfInBounds_toArray]
          have hSS := hHeld.mono (Nat.le_of_lt hz0)
          refine take_dst (i := 12) 15 (v := ?_) rfl rfl (by kernel_rfl) (by kernel_rfl) (by kernel_rfl) (fun _ _ _ h => h) (Or.inl ⟨by rfl, ?_⟩) (by assumption) ?_
          case refine_2 => ((intro w hSw); (try dsimp only at hSw); go_simp; (try with_reducible rfl))
          try simp only [Act.put]
          refine wpAnyH_ready (rs := [13]) (by kernel_rfl) (by simp) ?_
          refine AllReadyH.cons rfl (fun K hK => ?_) AllReadyH.nil
          have HZ3 := hid ((hHeld.block (w.heap.size + 1) hz0).trans HZ0.out)
          obtain ⟨z0, z1, z2⟩ := rel_three HZ3.out
          have f0 := st_thaw HZ3.out 0
          have f1 := st_thaw HZ3.out 1
          have f2 := st_thaw HZ3.out 2
          go_simp
          refine hK.out _ _ (rel_below hSS (Nat.le_refl _) _ _ _) (fun hS3 => ?_)
          clear hK K
          try simp only [Act.put]
          refine wpAnyH_done (by kernel_rfl) ?_ _
          have HB3 := hid (HB0.out.trans (hSS.mono (Nat.le_succ _)))
          have HO := hid (show Own3 w.heap.size (((y18.setCell ⟨w.heap.size + 1, 0, none⟩ (.slice q_a is.length c_a)).setCell ⟨w.heap.size + 1, 1, none⟩ (.slice q_b ask.length c_b)).setCell ⟨w.heap.size + 1, 2, none⟩ (.slice q_c ts.length c_c)) (.slice q_a is.length c_a) (.slice q_b ask.length c_b) (.slice q_c ts.length c_c) is ask ts from
            ⟨own_base (rel_own o_a hz0 (rel_step _ _ _ _ _)) HB0.out.size, own_base (rel_own o_b hz0 (rel_step _ _ _ _ _)) HB0.out.size, own_base (rel_own o_c hz0 (rel_step _ _ _ _ _)) HB0.out.size, A_a_b, A_a_c, A_b_c⟩)
          clear o_a o_b o_c A_a_b A_a_c A_b_c hHeld hS3 hSS
          go_wp2
          exact bodyPost_ret (v := .agg #[(.slice q_a is.length c_a), (.slice q_b ask.length c_b), (.slice q_c ts.length c_c)]) (by simp [results, Tryz.results21, go_sem, z0, z1, z2]) rfl ⟨_, _, _, rfl, rel_below HB3.out (Nat.le_succ _) _ _ _, HO.out⟩
        · skip
          go_simp
          have hN := copy_made y15 9 1 (W0.heap.size) hHeld.size
          have hA_a := apart_new o_a
          have hK_a := kept_made o_a (.cells #[] 9)
          have hA_b := apart_new o_b
          have hK_b := kept_made o_b (.cells #[] 9)
          have hS2 := hHeld.alloc hHeld.size (.cells #[] 9)
          refine hK.out _ _ (hS2.mono (Nat.le_of_lt hz0)) (fun hHeld2 => ?_)
          clear hK K hHeld2 hHeld o_a o_b
          try simp only [Act.put, List.setIfInBounds_toArray, List.set_cons_zero, List.set_cons_succ]
          generalize y15.alloc (.cells #[] 9) = y19 at *
          generalize (Value.slice (some ⟨y15.heap.size, 0, none⟩) 0 0) = s_c at *
          have A_a_c : ApartV (.slice q_a is.length c_a) s_c := hA_a
          clear hA_a
          have A_b_c : ApartV s_b s_c := hA_b
          clear hA_b
          have o_a := hK_a
          clear hK_a
          have o_b := hK_b
          clear hK_b
          have o_c := hN
          clear hN
          have hHeld := hS2
          clear hS2
          refine wpAnyH_ready (rs := [7]) (by kernel_rfl) (by simp) ?_
          refine AllReadyH.cons rfl (fun K hK => ?_) AllReadyH.nil
          refine step_append_any rfl (.tmp 7) (.tmp 9) rfl (W0.heap.size) s_b 0 [] (by rfl) o_b a2 ask (by rfl) (HF2.out _ (hHeld.mono (Nat.le_of_lt hz0))) (by simp; omega) hHeld.size ?_
          intro vb y20 hN hg hv
          rw [Nat.zero_add, List.nil_append] at hN
          have hS2 := below_grown hHeld o_b hg (Nat.le_refl _) hHeld.size
          have hK_a := kept_grown o_a hg (A_a_b)
          have hA_a := apart_grown o_a hv (A_a_b)
          have hK_c := kept_grown o_c hg (A_b_c.symm)
          have hA_c := apart_grown o_c hv (A_b_c.symm)
          clear hg hv hHeld o_a o_b o_c A_a_b A_b_c
          obtain ⟨q_b, c_b, rfl⟩ := touch_slice hN
          have A_a_b := hA_a
          have o_a := hK_a
          clear hA_a hK_a
          have A_b_c := hA_c.symm
          have o_c := hK_c
          clear hA_c hK_c
          have o_b := hN
          clear hN
          refine hK.out _ _ (hS2.mono (Nat.le_of_lt hz0)) (fun _ => ?_)
          clear hK K
          have hHeld := hS2
          clear hS2
          try simp only [Act.put, List.setIfInBounds_toArray]
          refine wpAnyH_ready (rs := [11]) (by kernel_rfl) (by simp) ?_
          refine AllReadyH.cons rfl (fun K hK => ?_) AllReadyH.nil
          refine step_append_any rfl (.tmp 11) (.tmp 13) rfl (W0.heap.size) s_c 0 [] (by rfl) o_c a3 ts (by rfl) (HF3.out _ (hHeld.mono (Nat.le_of_lt hz0))) (by simp; omega) hHeld.size ?_
          intro vc y21 hN hg hv
          rw [Nat.zero_add, List.nil_append] at hN
          have hS2 := below_grown hHeld o_c hg (Nat.le_refl _) hHeld.size
          have hK_a := kept_grown o_a hg (A_a_c)
          have hA_a := apart_grown o_a hv (A_a_c)
          have hK_b := kept_grown o_b hg (A_b_c)
          have hA_b := apart_grown o_b hv (A_b_c)
          clear hg hv hHeld o_a o_b o_c A_a_c A_b_c
          obtain ⟨q_c, c_c, rfl⟩ := touch_slice hN
          have A_a_c := hA_a
          have o_a := hK_a
          clear hA_a hK_a
          have A_b_c := hA_b
          have o_b := hK_b
          clear hA_b hK_b
          have o_c := hN
          clear hN
          refine hK.out _ _ (hS2.mono (Nat.le_of_lt hz0)) (fun _ => ?_)
          clear hK K
          have hHeld := hS2
          clear hS2
          try simp only [Act.put]
          have hSS := hHeld.mono (Nat.le_of_lt hz0)
          refine take_dst (i := 12) 15 (v := ?_) rfl rfl (by kernel_rfl) (by kernel_rfl) (by kernel_rfl) (fun _ _ _ h => h) (Or.inl ⟨by rfl, ?_⟩) (by assumption) ?_
          case refine_2 => ((intro w hSw); (try dsimp only at hSw); go_simp; (try with_reducible rfl))
          try simp only [Act.put]
          refine wpAnyH_ready (rs := [13]) (by kernel_rfl) (by simp) ?_
          refine AllReadyH.cons rfl (fun K hK => ?_) AllReadyH.nil
          have HZ3 := hid ((hHeld.block (w.heap.size + 1) hz0).trans HZ0.out)
          obtain ⟨z0, z1, z2⟩ := rel_three HZ3.out
          have f0 := st_thaw HZ3.out 0
          have f1 := st_thaw HZ3.out 1
          have f2 := st_thaw HZ3.out 2
          go_simp
          refine hK.out _ _ (rel_below hSS (Nat.le_refl _) _ _ _) (fun hS3 => ?_)
          clear hK K
          try simp only [Act.put]
          refine wpAnyH_done (by kernel_rfl) ?_ _
          have HB3 := hid (HB0.out.trans (hSS.mono (Nat.le_succ _)))
          have HO := hid (show Own3 w.heap.size (((y21.setCell ⟨w.heap.size + 1, 0, none⟩ (.slice q_a is.length c_a)).setCell ⟨w.heap.size + 1, 1, none⟩ (.slice q_b ask.length c_b)).setCell ⟨w.heap.size + 1, 2, none⟩ (.slice q_c ts.length c_c)) (.slice q_a is.length c_a) (.slice q_b ask.length c_b) (.slice q_c ts.length c_c) is ask ts from
            ⟨own_base (rel_own o_a hz0 (rel_step _ _ _ _ _)) HB0.out.size, own_base (rel_own o_b hz0 (rel_step _ _ _ _ _)) HB0.out.size, own_base (rel_own o_c hz0 (rel_step _ _ _ _ _)) HB0.out.size, A_a_b, A_a_c, A_b_c⟩)
          clear o_a o_b o_c A_a_b A_a_c A_b_c hHeld hS3 hSS
          go_wp2
          exact bodyPost_ret (v := .agg #[(.slice q_a is.length c_a), (.slice q_b ask.length c_b), (.slice q_c ts.length c_c)]) (by simp [results, Tryz.results21, go_sem, z0, z1, z2]) rfl ⟨_, _, _, rfl, rel_below HB3.out (Nat.le_succ _) _ _ _, HO.out⟩
      · skip
        go_simp
        have hN := copy_made y14 9 1 (W0.heap.size) hHeld.size
        have hA_a := apart_new o_a
        have hK_a := kept_made o_a (.cells #[] 9)
        have hA_b := apart_new o_b
        have hK_b := kept_made o_b (.cells #[] 9)
        have hS2 := hHeld.alloc hHeld.size (.cells #[] 9)
        refine hK.out _ _ (hS2.mono (Nat.le_of_lt hz0)) (fun hHeld2 => ?_)
        clear hK K hHeld2 hHeld o_a o_b
        try simp only [Act.put, List.setIfInBounds_toArray, List.set_cons_zero, List.set_cons_succ]
        generalize y14.alloc (.cells #[] 9) = y22 at *
        generalize (Value.slice (some ⟨y14.heap.size, 0, none⟩) 0 0) = s_c at *
        have A_a_c : ApartV s_a s_c := hA_a
        clear hA_a
        have A_b_c : ApartV s_b s_c := hA_b
        clear hA_b
        have o_a := hK_a
        clear hK_a
        have o_b := hK_b
        clear hK_b
        have o_c := hN
        clear hN
        have hHeld := hS2
        clear hS2
        refine wpAnyH_ready (rs := [3]) (by kernel_rfl) (by simp) ?_
        refine AllReadyH.cons rfl (fun K hK => ?_) AllReadyH.nil
        refine step_append_any rfl (.tmp 3) (.tmp 5) rfl (W0.heap.size) s_a 0 [] (by rfl) o_a a1 is (by rfl) (HF1.out _ (hHeld.mono (Nat.le_of_lt hz0))) (by simp; omega) hHeld.size ?_
        intro va y23 hN hg hv
        rw [Nat.zero_add, List.nil_append] at hN
        have hS2 := below_grown hHeld o_a hg (Nat.le_refl _) hHeld.size
        have hK_b := kept_grown o_b hg (A_a_b.symm)
        have hA_b := apart_grown o_b hv (A_a_b.symm)
        have hK_c := kept_grown o_c hg (A_a_c.symm)
        have hA_c := apart_grown o_c hv (A_a_c.symm)
        clear hg hv hHeld o_a o_b o_c A_a_b A_a_c
        obtain ⟨q_a, c_a, rfl⟩ := touch_slice hN
        have A_a_b := hA_b.symm
        have o_b := hK_b
        clear hA_b hK_b
        have A_a_c := hA_c.symm
        have o_c := hK_c
        clear hA_c hK_c
        have o_a := hN
        clear hN
        refine hK.out _ _ (hS2.mono (Nat.le_of_lt hz0)) (fun _ => ?_)
        clear hK K
        have hHeld := hS2
        clear hS2
        try simp only [Act.put, List.setIfInBounds_toArray]
        refine wpAnyH_ready (rs := [7]) (by kernel_rfl) (by simp) ?_
        refine AllReadyH.cons rfl (fun K hK => ?_) AllReadyH.nil
        refine step_append_any rfl (.tmp 7) (.tmp 9) rfl (W0.heap.size) s_b 0 [] (by rfl) o_b a2 ask (by rfl) (HF2.out _ (hHeld.mono (Nat.le_of_lt hz0))) (by simp; omega) hHeld.size ?_
        intro vb y24 hN hg hv
        rw [Nat.zero_add, List.nil_append] at hN
        have hS2 := below_grown hHeld o_b hg (Nat.le_refl _) hHeld.size
        have hK_a := kept_grown o_a hg (A_a_b)
        have hA_a := apart_grown o_a hv (A_a_b)
        have hK_c := kept_grown o_c hg (A_b_c.symm)
        have hA_c := apart_grown o_c hv (A_b_c.symm)
        clear hg hv hHeld o_a o_b o_c A_a_b A_b_c
        obtain ⟨q_b, c_b, rfl⟩ := touch_slice hN
        have A_a_b := hA_a
        have o_a := hK_a
        clear hA_a hK_a
        have A_b_c := hA_c.symm
        have o_c := hK_c
        clear hA_c hK_c
        have o_b := hN
        clear hN
        refine hK.out _ _ (hS2.mono (Nat.le_of_lt hz0)) (fun _ => ?_)
        clear hK K
        have hHeld := hS2
        clear hS2
        try simp only [Act.put]
        refine wpAnyH_ready (rs := [11]) (by kernel_rfl) (by simp) ?_
        refine AllReadyH.cons rfl (fun K hK => ?_) AllReadyH.nil
        refine step_append_any rfl (.tmp 11) (.tmp 13) rfl (W0.heap.size) s_c 0 [] (by rfl) o_c a3 ts (by rfl) (HF3.out _ (hHeld.mono (Nat.le_of_lt hz0))) (by simp; omega) hHeld.size ?_
        intro vc y25 hN hg hv
        rw [Nat.zero_add, List.nil_append] at hN
        have hS2 := below_grown hHeld o_c hg (Nat.le_refl _) hHeld.size
        have hK_a := kept_grown o_a hg (A_a_c)
        have hA_a := apart_grown o_a hv (A_a_c)
        have hK_b := kept_grown o_b hg (A_b_c)
        have hA_b := apart_grown o_b hv (A_b_c)
        clear hg hv hHeld o_a o_b o_c A_a_c A_b_c
        obtain ⟨q_c, c_c, rfl⟩ := touch_slice hN
        have A_a_c := hA_a
        have o_a := hK_a
        clear hA_a hK_a
        have A_b_c := hA_b
        have o_b := hK_b
        clear hA_b hK_b
        have o_c := hN
        clear hN
        refine hK.out _ _ (hS2.mono (Nat.le_of_lt hz0)) (fun _ => ?_)
        clear hK K
        have hHeld := hS2
        clear hS2
        try simp only [Act.put]
        have hSS := hHeld.mono (Nat.le_of_lt hz0)
        refine take_dst (i := 12) 15 (v := ?_) rfl rfl (by kernel_rfl) (by kernel_rfl) (by kernel_rfl) (fun _ _ _ h => h) (Or.inl ⟨by rfl, ?_⟩) (by assumption) ?_
        case refine_2 => ((intro w hSw); (try dsimp only at hSw); go_simp; (try with_reducible rfl))
        try simp only [Act.put]
        refine wpAnyH_ready (rs := [13]) (by kernel_rfl) (by simp) ?_
        refine AllReadyH.cons rfl (fun K hK => ?_) AllReadyH.nil
        have HZ3 := hid ((hHeld.block (w.heap.size + 1) hz0).trans HZ0.out)
        obtain ⟨z0, z1, z2⟩ := rel_three HZ3.out
        have f0 := st_thaw HZ3.out 0
        have f1 := st_thaw HZ3.out 1
        have f2 := st_thaw HZ3.out 2
        go_simp
        refine hK.out _ _ (rel_below hSS (Nat.le_refl _) _ _ _) (fun hS3 => ?_)
        clear hK K
        try simp only [Act.put]
        refine wpAnyH_done (by kernel_rfl) ?_ _
        have HB3 := hid (HB0.out.trans (hSS.mono (Nat.le_succ _)))
        have HO := hid (show Own3 w.heap.size (((y25.setCell ⟨w.heap.size + 1, 0, none⟩ (.slice q_a is.length c_a)).setCell ⟨w.heap.size + 1, 1, none⟩ (.slice q_b ask.length c_b)).setCell ⟨w.heap.size + 1, 2, none⟩ (.slice q_c ts.length c_c)) (.slice q_a is.length c_a) (.slice q_b ask.length c_b) (.slice q_c ts.length c_c) is ask ts from
          ⟨own_base (rel_own o_a hz0 (rel_step _ _ _ _ _)) HB0.out.size, own_base (rel_own o_b hz0 (rel_step _ _ _ _ _)) HB0.out.size, own_base (rel_own o_c hz0 (rel_step _ _ _ _ _)) HB0.out.size, A_a_b, A_a_c, A_b_c⟩)
        clear o_a o_b o_c A_a_b A_a_c A_b_c hHeld hS3 hSS
        go_wp2
        exact bodyPost_ret (v := .agg #[(.slice q_a is.length c_a), (.slice q_b ask.length c_b), (.slice q_c ts.length c_c)]) (by simp [results, Tryz.results21, go_sem, z0, z1, z2]) rfl ⟨_, _, _, rfl, rel_below HB3.out (Nat.le_succ _) _ _ _, HO.out⟩
    · skip
      go_simp
      have hN := copy_made y1 9 1 (W0.heap.size) hHeld.size
      have hA_a := apart_new o_a
      have hK_a := kept_made o_a (.cells #[] 9)
      have hS2 := hHeld.alloc hHeld.size (.cells #[] 9)
      refine hK.out _ _ (hS2.mono (Nat.le_of_lt hz0)) (fun hHeld2 => ?_)
      clear hK K hHeld2 hHeld o_a
      try simp only [Act.put, List.setIfInBounds_toArray, List.set_cons_zero, List.set_cons_succ]
      generalize y1.alloc (.cells #[] 9) = y26 at *
      generalize (Value.slice (some ⟨y1.heap.size, 0, none⟩) 0 0) = s_c at *
      have A_a_c : ApartV s_a s_c := hA_a
      clear hA_a
      have o_a := hK_a
      clear hK_a
      have o_c := hN
      clear hN
      have hHeld := hS2
      clear hS2
      refine wpAnyH_ready (rs := [3, 4]) (by kernel_rfl) (by simp) ?_
      refine AllReadyH.cons rfl (fun K hK => ?_) (AllReadyH.cons rfl (fun K hK => ?_) AllReadyH.nil)
      · skip
        refine step_append_any rfl (.tmp 3) (.tmp 5) rfl (W0.heap.size) s_a 0 [] (by rfl) o_a a1 is (by rfl) (HF1.out _ (hHeld.mono (Nat.le_of_lt hz0))) (by simp; omega) hHeld.size ?_
        intro va y27 hN hg hv
        rw [Nat.zero_add, List.nil_append] at hN
        have hS2 := below_grown hHeld o_a hg (Nat.le_refl _) hHeld.size
        have hK_c := kept_grown o_c hg (A_a_c.symm)
        have hA_c := apart_grown o_c hv (A_a_c.symm)
        clear hg hv hHeld o_a o_c A_a_c
        obtain ⟨q_a, c_a, rfl⟩ := touch_slice hN
        have A_a_c := hA_c.symm
        have o_c := hK_c
        clear hA_c hK_c
        have o_a := hN
        clear hN
        refine hK.out _ _ (hS2.mono (Nat.le_of_lt hz0)) (fun _ => ?_)
        clear hK K
        have hHeld := hS2
        clear hS2
        try simp only [Act.put, List.setIfInBounds_toArray]
        refine wpAnyH_ready (rs := [4]) (by kernel_rfl) (by simp) ?_
        refine AllReadyH.cons rfl (fun K hK => ?_) AllReadyH.nil
        go_simp
        have hN := copy_made y27 9 1 (W0.heap.size) hHeld.size
        have hA_a := apart_new o_a
        have hK_a := kept_made o_a (.cells #[] 9)
        have hA_c := apart_new o_c
        have hK_c := kept_made o_c (.cells #[] 9)
        have hS2 := hHeld.alloc hHeld.size (.cells #[] 9)
        refine hK.out _ _ (hS2.mono (Nat.le_of_lt hz0)) (fun hHeld2 => ?_)
        clear hK K hHeld2 hHeld o_a o_c
        try simp only [Act.put, List.setIfInBounds_toArray, List.set_cons_zero, List.set_cons_succ]
        generalize y27.alloc (.cells #[] 9) = y28 at *
        generalize (Value.slice (some ⟨y27.heap.size, 0, none⟩) 0 0) = s_b at *
        have A_a_b : ApartV (.slice q_a is.length c_a) s_b := hA_a
        clear hA_a
        have A_b_c : ApartV s_b s_c := hA_c.symm
        clear hA_c
        have o_a := hK_a
        clear hK_a
        have o_c := hK_c
        clear hK_c
        have o_b := hN
        clear hN
        have hHeld := hS2
        clear hS2
        refine wpAnyH_ready (rs := [7]) (by kernel_rfl) (by simp) ?_
        refine AllReadyH.cons rfl (fun K hK => ?_) AllReadyH.nil
        refine step_append_any rfl (.tmp 7) (.tmp 9) rfl (W0.heap.size) s_b 0 [] (by rfl) o_b a2 ask (by rfl) (HF2.out _ (hHeld.mono (Nat.le_of_lt hz0))) (by simp; omega) hHeld.size ?_
        intro vb y29 hN hg hv
        rw [Nat.zero_add, List.nil_append] at hN
        have hS2 := below_grown hHeld o_b hg (Nat.le_refl _) hHeld.size
        have hK_a := kept_grown o_a hg (A_a_b)
        have hA_a := apart_grown o_a hv (A_a_b)
        have hK_c := kept_grown o_c hg (A_b_c.symm)
        have hA_c := apart_grown o_c hv (A_b_c.symm)
        clear hg hv hHeld o_a o_c o_b A_a_b A_b_c
        obtain ⟨q_b, c_b, rfl⟩ := touch_slice hN
        have A_a_b := hA_a
        have o_a := hK_a
        clear hA_a hK_a
        have A_b_c := hA_c.symm
        have o_c := hK_c
        clear hA_c hK_c
        have o_b := hN
        clear hN
        refine hK.out _ _ (hS2.mono (Nat.le_of_lt hz0)) (fun _ => ?_)
        clear hK K
        have hHeld := hS2
        clear hS2
        try simp only [Act.put, List.setIfInBounds_toArray]
        refine wpAnyH_ready (rs := [11]) (by kernel_rfl) (by simp) ?_
        refine AllReadyH.cons rfl (fun K hK => ?_) AllReadyH.nil
        refine step_append_any rfl (.tmp 11) (.tmp 13) rfl (W0.heap.size) s_c 0 [] (by rfl) o_c a3 ts (by rfl) (HF3.out _ (hHeld.mono (Nat.le_of_lt hz0))) (by simp; omega) hHeld.size ?_
        intro vc y30 hN hg hv
        rw [Nat.zero_add, List.nil_append] at hN
        have hS2 := below_grown hHeld o_c hg (Nat.le_refl _) hHeld.size
        have hK_a := kept_grown o_a hg (A_a_c)
        have hA_a := apart_grown o_a hv (A_a_c)
        have hK_b := kept_grown o_b hg (A_b_c)
        have hA_b := apart_grown o_b hv (A_b_c)
        clear hg hv hHeld o_a o_c o_b A_a_c A_b_c
        obtain ⟨q_c, c_c, rfl⟩ := touch_slice hN
        have A_a_c := hA_a
        have o_a := hK_a
        clear hA_a hK_a
        have A_b_c := hA_b
        have o_b := hK_b
        clear hA_b hK_b
        have o_c := hN
        clear hN
        refine hK.out _ _ (hS2.mono (Nat.le_of_lt hz0)) (fun _ => ?_)
        clear hK K
        have hHeld := hS2
        clear hS2
        try simp only [Act.put]
        have hSS := hHeld.mono (Nat.le_of_lt hz0)
        refine take_dst (i := 12) 15 (v := ?_) rfl rfl (by kernel_rfl) (by kernel_rfl) (by kernel_rfl) (fun _ _ _ h => h) (Or.inl ⟨by rfl, ?_⟩) (by assumption) ?_
        case refine_2 => ((intro w hSw); (try dsimp only at hSw); go_simp; (try with_reducible rfl))
        try simp only [Act.put]
        refine wpAnyH_ready (rs := [13]) (by kernel_rfl) (by simp) ?_
        refine AllReadyH.cons rfl (fun K hK => ?_) AllReadyH.nil
        have HZ3 := hid ((hHeld.block (w.heap.size + 1) hz0).trans HZ0.out)
        obtain ⟨z0, z1, z2⟩ := rel_three HZ3.out
        have f0 := st_thaw HZ3.out 0
        have f1 := st_thaw HZ3.out 1
        have f2 := st_thaw HZ3.out 2
        go_simp
        refine hK.out _ _ (rel_below hSS (Nat.le_refl _) _ _ _) (fun hS3 => ?_)
        clear hK K
        try simp only [Act.put]
        refine wpAnyH_done (by kernel_rfl) ?_ _
        have HB3 := hid (HB0.out.trans (hSS.mono (Nat.le_succ _)))
        have HO := hid (show Own3 w.heap.size (((y30.setCell ⟨w.heap.size + 1, 0, none⟩ (.slice q_a is.length c_a)).setCell ⟨w.heap.size + 1, 1, none⟩ (.slice q_b ask.length c_b)).setCell ⟨w.heap.size + 1, 2, none⟩ (.slice q_c ts.length c_c)) (.slice q_a is.length c_a) (.slice q_b ask.length c_b) (.slice q_c ts.length c_c) is ask ts from
          ⟨own_base (rel_own o_a hz0 (rel_step _ _ _ _ _)) HB0.out.size, own_base (rel_own o_b hz0 (rel_step _ _ _ _ _)) HB0.out.size, own_base (rel_own o_c hz0 (rel_step _ _ _ _ _)) HB0.out.size, A_a_b, A_a_c, A_b_c⟩)
        clear o_a o_b o_c A_a_b A_a_c A_b_c hHeld hS3 hSS
        go_wp2
        exact bodyPost_ret (v := .agg #[(.slice q_a is.length c_a), (.slice q_b ask.length c_b), (.slice q_c ts.length c_c)]) (by simp [results, Tryz.results21, go_sem, z0, z1, z2]) rfl ⟨_, _, _, rfl, rel_below HB3.out (Nat.le_succ _) _ _ _, HO.out⟩
      · skip
        go_simp
        have hN := copy_made y26 9 1 (W0.heap.size) hHeld.size
        have hA_a := apart_new o_a
        have hK_a := kept_made o_a (.cells #[] 9)
        have hA_c := apart_new o_c
        have hK_c := kept_made o_c (.cells #[] 9)
        have hS2 := hHeld.alloc hHeld.size (.cells #[] 9)
        refine hK.out _ _ (hS2.mono (Nat.le_of_lt hz0)) (fun hHeld2 => ?_)
        clear hK K hHeld2 hHeld o_a o_c
        try simp only [Act.put, List.setIfInBounds_toArray, List.set_cons_zero, List.set_cons_succ]
        generalize y26.alloc (.cells #[] 9) = y31 at *
        generalize (Value.slice (some ⟨y26.heap.size, 0, none⟩) 0 0) = s_b at *
        have A_a_b : ApartV s_a s_b := hA_a
        clear hA_a
        have A_b_c : ApartV s_b s_c := hA_c.symm
        clear hA_c
        have o_a := hK_a
        clear hK_a
        have o_c := hK_c
        clear hK_c
        have o_b := hN
        clear hN
        have hHeld := hS2
        clear hS2
        refine wpAnyH_ready (rs := [3]) (by kernel_rfl) (by simp) ?_
        refine AllReadyH.cons rfl (fun K hK => ?_) AllReadyH.nil
        refine step_append_any rfl (.tmp 3) (.tmp 5) rfl (W0.heap.size) s_a 0 [] (by rfl) o_a a1 is (by rfl) (HF1.out _ (hHeld.mono (Nat.le_of_lt hz0))) (by simp; omega) hHeld.size ?_
        intro va y32 hN hg hv
        rw [Nat.zero_add, List.nil_append] at hN
        have hS2 := below_grown hHeld o_a hg (Nat.le_refl _) hHeld.size
        have hK_c := kept_grown o_c hg (A_a_c.symm)
        have hA_c := apart_grown o_c hv (A_a_c.symm)
        have hK_b := kept_grown o_b hg (A_a_b.symm)
        have hA_b := apart_grown o_b hv (A_a_b.symm)
        clear hg hv hHeld o_a o_c o_b A_a_c A_a_b
        obtain ⟨q_a, c_a, rfl⟩ := touch_slice hN
        have A_a_c := hA_c.symm
        have o_c := hK_c
        clear hA_c hK_c
        have A_a_b := hA_b.symm
        have o_b := hK_b
        clear hA_b hK_b
        have o_a := hN
        clear hN
        refine hK.out _ _ (hS2.mono (Nat.le_of_lt hz0)) (fun _ => ?_)
        clear hK K
        have hHeld := hS2
        clear hS2
        try simp only [Act.put, List.setIfInBounds_toArray]
        refine wpAnyH_ready (rs := [7]) (by kernel_rfl) (by simp) ?_
        refine AllReadyH.cons rfl (fun K hK => ?_) AllReadyH.nil
        refine step_append_any rfl (.tmp 7) (.tmp 9) rfl (W0.heap.size) s_b 0 [] (by rfl) o_b a2 ask (by rfl) (HF2.out _ (hHeld.mono (Nat.le_of_lt hz0))) (by simp; omega) hHeld.size ?_
        intro vb y33 hN hg hv
        rw [Nat.zero_add, List.nil_append] at hN
        have hS2 := below_grown hHeld o_b hg (Nat.le_refl _) hHeld.size
        have hK_a := kept_grown o_a hg (A_a_b)
        have hA_a := apart_grown o_a hv (A_a_b)
        have hK_c := kept_grown o_c hg (A_b_c.symm)
        have hA_c := apart_grown o_c hv (A_b_c.symm)
        clear hg hv hHeld o_a o_c o_b A_a_b A_b_c
        obtain ⟨q_b, c_b, rfl⟩ := touch_slice hN
        have A_a_b := hA_a
        have o_a := hK_a
        clear hA_a hK_a
        have A_b_c := hA_c.symm
        have o_c := hK_c
        clear hA_c hK_c
        have o_b := hN
        clear hN
        refine hK.out _ _ (hS2.mono (Nat.le_of_lt hz0)) (fun _ => ?_)
        clear hK K
        have hHeld := hS2
        clear hS2
        try simp only [Act.put]
        refine wpAnyH_ready (rs := [11]) (by kernel_rfl) (by simp) ?_
        refine AllReadyH.cons rfl (fun K hK => ?_) AllReadyH.nil
        refine step_append_any rfl (.tmp 11) (.tmp 13) rfl (W0.heap.size) s_c 0 [] (by rfl) o_c a3 ts (by rfl) (HF3.out _ (hHeld.mono (Nat.le_of_lt hz0))) (by simp; omega) hHeld.size ?_
        intro vc y34 hN hg hv
        rw [Nat.zero_add, List.nil_append] at hN
        have hS2 := below_grown hHeld o_c hg (Nat.le_refl _) hHeld.size
        have hK_a := kept_grown o_a hg (A_a_c)
        have hA_a := apart_grown o_a hv (A_a_c)
        have hK_b := kept_grown o_b hg (A_b_c)
        have hA_b := apart_grown o_b hv (A_b_c)
        clear hg hv hHeld o_a o_c o_b A_a_c A_b_c
        obtain ⟨q_c, c_c, rfl⟩ := touch_slice hN
        have A_a_c := hA_a
        have o_a := hK_a
        clear hA_a hK_a
        have A_b_c := hA_b
        have o_b := hK_b
        clear hA_b hK_b
        have o_c := hN
        clear hN
        refine hK.out _ _ (hS2.mono (Nat.le_of_lt hz0)) (fun _ => ?_)
        clear hK K
        have hHeld := hS2
        clear hS2
        try simp only [Act.put]
        have hSS := hHeld.mono (Nat.le_of_lt hz0)
        refine take_dst (i := 12) 15 (v := ?_) rfl rfl (by kernel_rfl) (by kernel_rfl) (by kernel_rfl) (fun _ _ _ h => h) (Or.inl ⟨by rfl, ?_⟩) (by assumption) ?_
        case refine_2 => ((intro w hSw); (try dsimp only at hSw); go_simp; (try with_reducible rfl))
        try simp only [Act.put]
        refine wpAnyH_ready (rs := [13]) (by kernel_rfl) (by simp) ?_
        refine AllReadyH.cons rfl (fun K hK => ?_) AllReadyH.nil
        have HZ3 := hid ((hHeld.block (w.heap.size + 1) hz0).trans HZ0.out)
        obtain ⟨z0, z1, z2⟩ := rel_three HZ3.out
        have f0 := st_thaw HZ3.out 0
        have f1 := st_thaw HZ3.out 1
        have f2 := st_thaw HZ3.out 2
        go_simp
        refine hK.out _ _ (rel_below hSS (Nat.le_refl _) _ _ _) (fun hS3 => ?_)
        clear hK K
        try simp only [Act.put]
        refine wpAnyH_done (by kernel_rfl) ?_ _
        have HB3 := hid (HB0.out.trans (hSS.mono (Nat.le_succ _)))
        have HO := hid (show Own3 w.heap.size (((y34.setCell ⟨w.heap.size + 1, 0, none⟩ (.slice q_a is.length c_a)).setCell ⟨w.heap.size + 1, 1, none⟩ (.slice q_b ask.length c_b)).setCell ⟨w.heap.size + 1, 2, none⟩ (.slice q_c ts.length c_c)) (.slice q_a is.length c_a) (.slice q_b ask.length c_b) (.slice q_c ts.length c_c) is ask ts from
          ⟨own_base (rel_own o_a hz0 (rel_step _ _ _ _ _)) HB0.out.size, own_base (rel_own o_b hz0 (rel_step _ _ _ _ _)) HB0.out.size, own_base (rel_own o_c hz0 (rel_step _ _ _ _ _)) HB0.out.size, A_a_b, A_a_c, A_b_c⟩)
        clear o_a o_b o_c A_a_b A_a_c A_b_c hHeld hS3 hSS
        go_wp2
        exact bodyPost_ret (v := .agg #[(.slice q_a is.length c_a), (.slice q_b ask.length c_b), (.slice q_c ts.length c_c)]) (by simp [results, Tryz.results21, go_sem, z0, z1, z2]) rfl ⟨_, _, _, rfl, rel_below HB3.out (Nat.le_succ _) _ _ _, HO.out⟩
  · skip
    go_simp
    have hN := copy_made y0 9 1 (W0.heap.size) hHeld.size
    have hS2 := hHeld.alloc hHeld.size (.cells #[] 9)
    refine hK.out _ _ (hS2.mono (Nat.le_of_lt hz0)) (fun hHeld2 => ?_)
    clear hK K hHeld2 hHeld 
    try simp only [Act.put, List.setIfInBounds_toArray, List.set_cons_zero, List.set_cons_succ]
    generalize y0.alloc (.cells #[] 9) = y35 at *
    generalize (Value.slice (some ⟨y0.heap.size, 0, none⟩) 0 0) = s_b at *
    have o_b := hN
    clear hN
    have hHeld := hS2
    clear hS2
    refine wpAnyH_ready (rs := [0, 8]) (by kernel_rfl) (by simp) ?_
    refine AllReadyH.cons rfl (fun K hK => ?_) (AllReadyH.cons rfl (fun K hK => ?_) AllReadyH.nil)
    · skip
      go_simp
      have hN := copy_made y35 9 1 (W0.heap.size) hHeld.size
      have hA_b := apart_new o_b
      have hK_b := kept_made o_b (.cells #[] 9)
      have hS2 := hHeld.alloc hHeld.size (.cells #[] 9)
      refine hK.out _ _ (hS2.mono (Nat.le_of_lt hz0)) (fun hHeld2 => ?_)
      clear hK K hHeld2 hHeld o_b
      try simp only [Act.put, List.setIfInBounds_toArray, List.set_cons_zero, List.set_cons_succ]
      generalize y35.alloc (.cells #[] 9) = y36 at *
      generalize (Value.slice (some ⟨y35.heap.size, 0, none⟩) 0 0) = s_a at *
      have A_a_b : ApartV s_a s_b := hA_b.symm
      clear hA_b
      have o_b := hK_b
      clear hK_b
      have o_a := hN
      clear hN
      have hHeld := hS2
      clear hS2
      refine wpAnyH_ready (rs := [3, 8]) (by kernel_rfl) (by simp) ?_
      refine AllReadyH.cons rfl (fun K hK => ?_) (AllReadyH.cons rfl (fun K hK => ?_) AllReadyH.nil)
      · skip
        refine step_append_any rfl (.tmp 3) (.tmp 5) rfl (W0.heap.size) s_a 0 [] (by rfl) o_a a1 is (by rfl) (HF1.out _ (hHeld.mono (Nat.le_of_lt hz0))) (by simp; omega) hHeld.size ?_
        intro va y37 hN hg hv
        rw [Nat.zero_add, List.nil_append] at hN
        have hS2 := below_grown hHeld o_a hg (Nat.le_refl _) hHeld.size
        have hK_b := kept_grown o_b hg (A_a_b.symm)
        have hA_b := apart_grown o_b hv (A_a_b.symm)
        clear hg hv hHeld o_b o_a A_a_b
        obtain ⟨q_a, c_a, rfl⟩ := touch_slice hN
        have A_a_b := hA_b.symm
        have o_b := hK_b
        clear hA_b hK_b
        have o_a := hN
        clear hN
        refine hK.out _ _ (hS2.mono (Nat.le_of_lt hz0)) (fun _ => ?_)
        clear hK K
        have hHeld := hS2
        clear hS2
        try simp only [Act.put, List.setIfInBounds_toArray]
        refine wpAnyH_ready (rs := [7, 8]) (by kernel_rfl) (by simp) ?_
        refine AllReadyH.cons rfl (fun K hK => ?_) (AllReadyH.cons rfl (fun K hK => ?_) AllReadyH.nil)
        · skip
          refine step_append_any rfl (.tmp 7) (.tmp 9) rfl (W0.heap.size) s_b 0 [] (by rfl) o_b a2 ask (by rfl) (HF2.out _ (hHeld.mono (Nat.le_of_lt hz0))) (by simp; omega) hHeld.size ?_
          intro vb y38 hN hg hv
          rw [Nat.zero_add, List.nil_append] at hN
          have hS2 := below_grown hHeld o_b hg (Nat.le_refl _) hHeld.size
          have hK_a := kept_grown o_a hg (A_a_b)
          have hA_a := apart_grown o_a hv (A_a_b)
          clear hg hv hHeld o_b o_a A_a_b
          obtain ⟨q_b, c_b, rfl⟩ := touch_slice hN
          have A_a_b := hA_a
          have o_a := hK_a
          clear hA_a hK_a
          have o_b := hN
          clear hN
          refine hK.out _ _ (hS2.mono (Nat.le_of_lt hz0)) (fun _ => ?_)
          clear hK K
          have hHeld := hS2
          clear hS2
          try simp only [Act.put]
          refine wpAnyH_ready (rs := [8]) (by kernel_rfl) (by simp) ?_
          refine AllReadyH.cons rfl (fun K hK => ?_) AllReadyH.nil
          go_simp
          have hN := copy_made y38 9 1 (W0.heap.size) hHeld.size
          have hA_b := apart_new o_b
          have hK_b := kept_made o_b (.cells #[] 9)
          have hA_a := apart_new o_a
          have hK_a := kept_made o_a (.cells #[] 9)
          have hS2 := hHeld.alloc hHeld.size (.cells #[] 9)
          refine hK.out _ _ (hS2.mono (Nat.le_of_lt hz0)) (fun hHeld2 => ?_)
          clear hK K hHeld2 hHeld o_b o_a
          try simp only [Act.put, List.setIfInBounds_toArray, List.set_cons_zero, List.set_cons_succ]
          generalize y38.alloc (.cells #[] 9) = y39 at *
          generalize (Value.slice (some ⟨y38.heap.size, 0, none⟩) 0 0) = s_c at *
          have A_b_c : ApartV (.slice q_b ask.length c_b) s_c := hA_b
          clear hA_b
          have A_a_c : ApartV (.slice q_a is.length c_a) s_c := hA_a
          clear hA_a
          have o_b := hK_b
          clear hK_b
          have o_a := hK_a
          clear hK_a
          have o_c := hN
          clear hN
          have hHeld := hS2
          clear hS2
          refine wpAnyH_ready (rs := [11]) (by kernel_rfl) (by simp) ?_
          refine AllReadyH.cons rfl (fun K hK => ?_) AllReadyH.nil
          refine step_append_any rfl (.tmp 11) (.tmp 13) rfl (W0.heap.size) s_c 0 [] (by rfl) o_c a3 ts (by rfl) (HF3.out _ (hHeld.mono (Nat.le_of_lt hz0))) (by simp; omega) hHeld.size ?_
          intro vc y40 hN hg hv
          rw [Nat.zero_add, List.nil_append] at hN
          have hS2 := below_grown hHeld o_c hg (Nat.le_refl _) hHeld.size
          have hK_b := kept_grown o_b hg (A_b_c)
          have hA_b := apart_grown o_b hv (A_b_c)
          have hK_a := kept_grown o_a hg (A_a_c)
          have hA_a := apart_grown o_a hv (A_a_c)
          clear hg hv hHeld o_b o_a o_c A_b_c A_a_c
          obtain ⟨q_c, c_c, rfl⟩ := touch_slice hN
          have A_b_c := hA_b
          have o_b := hK_b
          clear hA_b hK_b
          have A_a_c := hA_a
          have o_a := hK_a
          clear hA_a hK_a
          have o_c := hN
          clear hN
          refine hK.out _ _ (hS2.mono (Nat.le_of_lt hz0)) (fun _ => ?_)
          clear hK K
          have hHeld := hS2
          clear hS2
          try simp only [Act.put, List.setIfInBounds_toArray]
          have hSS := hHeld.mono (Nat.le_of_lt hz0)
          refine take_dst (i := 12) 15 (v := ?_) rfl rfl (by kernel_rfl) (by kernel_rfl) (by kernel_rfl) (fun _ _ _ h => h) (Or.inl ⟨by rfl, ?_⟩) (by assumption) ?_
          case refine_2 => ((intro w hSw); (try dsimp only at hSw); go_simp; (try with_reducible rfl))
          try simp only [Act.put]
          refine wpAnyH_ready (rs := [13]) (by kernel_rfl) (by simp) ?_
          refine AllReadyH.cons rfl (fun K hK => ?_) AllReadyH.nil
          have HZ3 := hid ((hHeld.block (w.heap.size + 1) hz0).trans HZ0.out)
          obtain ⟨z0, z1, z2⟩ := rel_three HZ3.out
          have f0 := st_thaw HZ3.out 0
          have f1 := st_thaw HZ3.out 1
          have f2 := st_thaw HZ3.out 2
          go_simp
          refine hK.out _ _ (rel_below hSS (Nat.le_refl _) _ _ _) (fun hS3 => ?_)
          clear hK K
          try simp only [Act.put]
          refine wpAnyH_done (by kernel_rfl) ?_ _
          have HB3 := hid (HB0.out.trans (hSS.mono (Nat.le_succ _)))
          have HO := hid (show Own3 w.heap.size (((y40.setCell ⟨w.heap.size + 1, 0, none⟩ (.slice q_a is.length c_a)).setCell ⟨w.heap.size + 1, 1, none⟩ (.slice q_b ask.length c_b)).setCell ⟨w.heap.size + 1, 2, none⟩ (.slice q_c ts.length c_c)) (.slice q_a is.length c_a) (.slice q_b ask.length c_b) (.slice q_c ts.length c_c) is ask ts from
            ⟨own_base (rel_own o_a hz0 (rel_step _ _ _ _ _)) HB0.out.size, own_base (rel_own o_b hz0 (rel_step _ _ _ _ _)) HB0.out.size, own_base (rel_own o_c hz0 (rel_step _ _ _ _ _)) HB0.out.size, A_a_b, A_a_c, A_b_c⟩)
          clear o_a o_b o_c A_a_b A_a_c A_b_c hHeld hS3 hSS
          go_wp2
          exact bodyPost_ret (v := .agg #[(.slice q_a is.length c_a), (.slice q_b ask.length c_b), (.slice q_c ts.length c_c)]) (by simp [results, Tryz.results21, go_sem, z0, z1, z2]) rfl ⟨_, _, _, rfl, rel_below HB3.out (Nat.le_succ _) _ _ _, HO.out⟩
        · skip
          go_simp
          have hN := copy_made y37 9 1 (W0.heap.size) hHeld.size
          have hA_b := apart_new o_b
          have hK_b := kept_made o_b (.cells #[] 9)
          have hA_a := apart_new o_a
          have hK_a := kept_made o_a (.cells #[] 9)
          have hS2 := hHeld.alloc hHeld.size (.cells #[] 9)
          refine hK.out _ _ (hS2.mono (Nat.le_of_lt hz0)) (fun hHeld2 => ?_)
          clear hK K hHeld2 hHeld o_b o_a
          try simp only [Act.put, List.setIfInBounds_toArray, List.set_cons_zero, List.set_cons_succ]
          generalize y37.alloc (.cells #[] 9) = y41 at *
          generalize (Value.slice (some ⟨y37.heap.size, 0, none⟩) 0 0) = s_c at *
          have A_b_c : ApartV s_b s_c := hA_b
          clear hA_b
          have A_a_c : ApartV (.slice q_a is.length c_a) s_c := hA_a
          clear hA_a
          have o_b := hK_b
          clear hK_b
          have o_a := hK_a
          clear hK_a
          have o_c := hN
          clear hN
          have hHeld := hS2
          clear hS2
          refine wpAnyH_ready (rs := [7]) (by kernel_rfl) (by simp) ?_
          refine AllReadyH.cons rfl (fun K hK => ?_) AllReadyH.nil
          refine step_append_any rfl (.tmp 7) (.tmp 9) rfl (W0.heap.size) s_b 0 [] (by rfl) o_b a2 ask (by rfl) (HF2.out _ (hHeld.mono (Nat.le_of_lt hz0))) (by simp; omega) hHeld.size ?_
          intro vb y42 hN hg hv
          rw [Nat.zero_add, List.nil_append] at hN
          have hS2 := below_grown hHeld o_b hg (Nat.le_refl _) hHeld.size
          have hK_a := kept_grown o_a hg (A_a_b)
          have hA_a := apart_grown o_a hv (A_a_b)
          have hK_c := kept_grown o_c hg (A_b_c.symm)
          have hA_c := apart_grown o_c hv (A_b_c.symm)
          clear hg hv hHeld o_b o_a o_c A_a_b A_b_c
          obtain ⟨q_b, c_b, rfl⟩ := touch_slice hN
          have A_a_b := hA_a
          have o_a := hK_a
          clear hA_a hK_a
          have A_b_c := hA_c.symm
          have o_c := hK_c
          clear hA_c hK_c
          have o_b := hN
          clear hN
          refine hK.out _ _ (hS2.mono (Nat.le_of_lt hz0)) (fun _ => ?_)
          clear hK K
          have hHeld := hS2
          clear hS2
          try simp only [Act.put, List.setIfInBounds_toArray]
          refine wpAnyH_ready (rs := [11]) (by kernel_rfl) (by simp) ?_
          refine AllReadyH.cons rfl (fun K hK => ?_) AllReadyH.nil
          refine step_append_any rfl (.tmp 11) (.tmp 13) rfl (W0.heap.size) s_c 0 [] (by rfl) o_c a3 ts (by rfl) (HF3.out _ (hHeld.mono (Nat.le_of_lt hz0))) (by simp; omega) hHeld.size ?_
          intro vc y43 hN hg hv
          rw [Nat.zero_add, List.nil_append] at hN
          have hS2 := below_grown hHeld o_c hg (Nat.le_refl _) hHeld.size
          have hK_b := kept_grown o_b hg (A_b_c)
          have hA_b := apart_grown o_b hv (A_b_c)
          have hK_a := kept_grown o_a hg (A_a_c)
          have hA_a := apart_grown o_a hv (A_a_c)
          clear hg hv hHeld o_b o_a o_c A_b_c A_a_c
          obtain ⟨q_c, c_c, rfl⟩ := touch_slice hN
          have A_b_c := hA_b
          have o_b := hK_b
          clear hA_b hK_b
          have A_a_c := hA_a
          have o_a := hK_a
          clear hA_a hK_a
          have o_c := hN
          clear hN
          refine hK.out _ _ (hS2.mono (Nat.le_of_lt hz0)) (fun _ => ?_)
          clear hK K
          have hHeld := hS2
          clear hS2
          try simp only [Act.put]
          have hSS := hHeld.mono (Nat.le_of_lt hz0)
          refine take_dst (i := 12) 15 (v := ?_) rfl rfl (by kernel_rfl) (by kernel_rfl) (by kernel_rfl) (fun _ _ _ h => h) (Or.inl ⟨by rfl, ?_⟩) (by assumption) ?_
          case refine_2 => ((intro w hSw); (try dsimp only at hSw); go_simp; (try with_reducible rfl))
          try simp only [Act.put]
          refine wpAnyH_ready (rs := [13]) (by kernel_rfl) (by simp) ?_
          refine AllReadyH.cons rfl (fun K hK => ?_) AllReadyH.nil
          have HZ3 := hid ((hHeld.block (w.heap.size + 1) hz0).trans HZ0.out)
          obtain ⟨z0, z1, z2⟩ := rel_three HZ3.out
          have f0 := st_thaw HZ3.out 0
          have f1 := st_thaw HZ3.out 1
          have f2 := st_thaw HZ3.out 2
          go_simp
          refine hK.out _ _ (rel_below hSS (Nat.le_refl _) _ _ _) (fun hS3 => ?_)
          clear hK K
          try simp only [Act.put]
          refine wpAnyH_done (by kernel_rfl) ?_ _
          have HB3 := hid (HB0.out.trans (hSS.mono (Nat.le_succ _)))
          have HO := hid (show Own3 w.heap.size (((y43.setCell ⟨w.heap.size + 1, 0, none⟩ (.slice q_a is.length c_a)).setCell ⟨w.heap.size + 1, 1, none⟩ (.slice q_b ask.length c_b)).setCell ⟨w.heap.size + 1, 2, none⟩ (.slice q_c ts.length c_c)) (.slice q_a is.length c_a) (.slice q_b ask.length c_b) (.slice q_c ts.length c_c) is ask ts from
            ⟨own_base (rel_own o_a hz0 (rel_step _ _ _ _ _)) HB0.out.size, own_base (rel_own o_b hz0 (rel_step _ _ _ _ _)) HB0.out.size, own_base (rel_own o_c hz0 (rel_step _ _ _ _ _)) HB0.out.size, A_a_b, A_a_c, A_b_c⟩)
          clear o_a o_b o_c A_a_b A_a_c A_b_c hHeld hS3 hSS
          go_wp2
          exact bodyPost_ret (v := .agg #[(.slice q_a is.length c_a), (.slice q_b ask.length c_b), (.slice q_c ts.length c_c)]) (by simp [results, Tryz.results21, go_sem, z0, z1, z2]) rfl ⟨_, _, _, rfl, rel_below HB3.out (Nat.le_succ _) _ _ _, HO.out⟩
      · skip
        go_simp
        have hN := copy_made y36 9 1 (W0.heap.size) hHeld.size
        have hA_b := apart_new o_b
        have hK_b := kept_made o_b (.cells #[] 9)
        have hA_a := apart_new o_a
        have hK_a := kept_made o_a (.cells #[] 9)
        have hS2 := hHeld.alloc hHeld.size (.cells #[] 9)
        refine hK.out _ _ (hS2.mono (Nat.le_of_lt hz0)) (fun hHeld2 => ?_)
        clear hK K hHeld2 hHeld o_b o_a
        try simp only [Act.put, List.setIfInBounds_toArray, List.set_cons_zero, List.set_cons_succ]
        generalize y36.alloc (.cells #[] 9) = y44 at *
        generalize (Value.slice (some ⟨y36.heap.size, 0, none⟩) 0 0) = s_c at *
        have A_b_c : ApartV s_b s_c := hA_b
        clear hA_b
        have A_a_c : ApartV s_a s_c := hA_a
        clear hA_a
        have o_b := hK_b
        clear hK_b
        have o_a := hK_a
        clear hK_a
        have o_c := hN
        clear hN
        have hHeld := hS2
        clear hS2
        refine wpAnyH_ready (rs := [3]) (by kernel_rfl) (by simp) ?_
        refine AllReadyH.cons rfl (fun K hK => ?_) AllReadyH.nil
        refine step_append_any rfl (.tmp 3) (.tmp 5) rfl (W0.heap.size) s_a 0 [] (by rfl) o_a a1 is (by rfl) (HF1.out _ (hHeld.mono (Nat.le_of_lt hz0))) (by simp; omega) hHeld.size ?_
        intro va y45 hN hg hv
        rw [Nat.zero_add, List.nil_append] at hN
        have hS2 := below_grown hHeld o_a hg (Nat.le_refl _) hHeld.size
        have hK_b := kept_grown o_b hg (A_a_b.symm)
        have hA_b := apart_grown o_b hv (A_a_b.symm)
        have hK_c := kept_grown o_c hg (A_a_c.symm)
        have hA_c := apart_grown o_c hv (A_a_c.symm)
        clear hg hv hHeld o_b o_a o_c A_a_b A_a_c
        obtain ⟨q_a, c_a, rfl⟩ := touch_slice hN
        have A_a_b := hA_b.symm
        have o_b := hK_b
        clear hA_b hK_b
        have A_a_c := hA_c.symm
        have o_c := hK_c
        clear hA_c hK_c
        have o_a := hN
        clear hN
        refine hK.out _ _ (hS2.mono (Nat.le_of_lt hz0)) (fun _ => ?_)
        clear hK K
        have hHeld := hS2
        clear hS2
        try simp only [Act.put, List.setIfInBounds_toArray]
        refine wpAnyH_ready (rs := [7]) (by kernel_rfl) (by simp) ?_
        refine AllReadyH.cons rfl (fun K hK => ?_) AllReadyH.nil
        refine step_append_any rfl (.tmp 7) (.tmp 9) rfl (W0.heap.size) s_b 0 [] (by rfl) o_b a2 ask (by rfl) (HF2.out _ (hHeld.mono (Nat.le_of_lt hz0))) (by simp; omega) hHeld.size ?_
        intro vb y46 hN hg hv
        rw [Nat.zero_add, List.nil_append] at hN
        have hS2 := below_grown hHeld o_b hg (Nat.le_refl _) hHeld.size
        have hK_a := kept_grown o_a hg (A_a_b)
        have hA_a := apart_grown o_a hv (A_a_b)
        have hK_c := kept_grown o_c hg (A_b_c.symm)
        have hA_c := apart_grown o_c hv (A_b_c.symm)
        clear hg hv hHeld o_b o_a o_c A_a_b A_b_c
        obtain ⟨q_b, c_b, rfl⟩ := touch_slice hN
        have A_a_b := hA_a
        have o_a := hK_a
        clear hA_a hK_a
        have A_b_c := hA_c.symm
        have o_c := hK_c
        clear hA_c hK_c
        have o_b := hN
        clear hN
        refine hK.out _ _ (hS2.mono (Nat.le_of_lt hz0)) (fun _ => ?_)
        clear hK K
        have hHeld := hS2
        clear hS2
        try simp only [Act.put]
        refine wpAnyH_ready (rs := [11]) (by kernel_rfl) (by simp) ?_
        refine AllReadyH.cons rfl (fun K hK => ?_) AllReadyH.nil
        refine step_append_any rfl (.tmp 11) (.tmp 13) rfl (W0.heap.size) s_c 0 [] (by rfl) o_c a3 ts (by rfl) (HF3.out _ (hHeld.mono (Nat.le_of_lt hz0))) (by simp; omega) hHeld.size ?_
        intro vc y47 hN hg hv
        rw [Nat.zero_add, List.nil_append] at hN
        have hS2 := below_grown hHeld o_c hg (Nat.le_refl _) hHeld.size
        have hK_b := kept_grown o_b hg (A_b_c)
        have hA_b := apart_grown o_b hv (A_b_c)
        have hK_a := kept_grown o_a hg (A_a_c)
        have hA_a := apart_grown o_a hv (A_a_c)
        clear hg hv hHeld o_b o_a o_c A_b_c A_a_c
        obtain ⟨q_c, c_c, rfl⟩ := touch_slice hN
        have A_b_c := hA_b
        have o_b := hK_b
        clear hA_b hK_b
        have A_a_c := hA_a
        have o_a := hK_a
        clear hA_a hK_a
        have o_c := hN
        clear hN
        refine hK.out _ _ (hS2.mono (Nat.le_of_lt hz0)) (fun _ => ?_)
        clear hK K
        have hHeld := hS2
        clear hS2
        try simp only [Act.put]
        have hSS := hHeld.mono (Nat.le_of_lt hz0)
        refine take_dst (i := 12) 15 (v := ?_) rfl rfl (by kernel_rfl) (by kernel_rfl) (by kernel_rfl) (fun _ _ _ h => h) (Or.inl ⟨by rfl, ?_⟩) (by assumption) ?_
        case refine_2 => ((intro w hSw); (try dsimp only at hSw); go_simp; (try with_reducible rfl))
        try simp only [Act.put]
        refine wpAnyH_ready (rs := [13]) (by kernel_rfl) (by simp) ?_
        refine AllReadyH.cons rfl (fun K hK => ?_) AllReadyH.nil
        have HZ3 := hid ((hHeld.block (w.heap.size + 1) hz0).trans HZ0.out)
        obtain ⟨z0, z1, z2⟩ := rel_three HZ3.out
        have f0 := st_thaw HZ3.out 0
        have f1 := st_thaw HZ3.out 1
        have f2 := st_thaw HZ3.out 2
        go_simp
        refine hK.out _ _ (rel_below hSS (Nat.le_refl _) _ _ _) (fun hS3 => ?_)
        clear hK K
        try simp only [Act.put]
        refine wpAnyH_done (by kernel_rfl) ?_ _
        have HB3 := hid (HB0.out.trans (hSS.mono (Nat.le_succ _)))
        have HO := hid (show Own3 w.heap.size (((y47.setCell ⟨w.heap.size + 1, 0, none⟩ (.slice q_a is.length c_a)).setCell ⟨w.heap.size + 1, 1, none⟩ (.slice q_b ask.length c_b)).setCell ⟨w.heap.size + 1, 2, none⟩ (.slice q_c ts.length c_c)) (.slice q_a is.length c_a) (.slice q_b ask.length c_b) (.slice q_c ts.length c_c) is ask ts from
          ⟨own_base (rel_own o_a hz0 (rel_step _ _ _ _ _)) HB0.out.size, own_base (rel_own o_b hz0 (rel_step _ _ _ _ _)) HB0.out.size, own_base (rel_own o_c hz0 (rel_step _ _ _ _ _)) HB0.out.size, A_a_b, A_a_c, A_b_c⟩)
        clear o_a o_b o_c A_a_b A_a_c A_b_c hHeld hS3 hSS
        go_wp2
        exact bodyPost_ret (v := .agg #[(.slice q_a is.length c_a), (.slice q_b ask.length c_b), (.slice q_c ts.length c_c)]) (by simp [results, Tryz.results21, go_sem, z0, z1, z2]) rfl ⟨_, _, _, rfl, rel_below HB3.out (Nat.le_succ _) _ _ _, HO.out⟩
    · skip
      go_simp
      have hN := copy_made y35 9 1 (W0.heap.size) hHeld.size
      have hA_b := apart_new o_b
      have hK_b := kept_made o_b (.cells #[] 9)
      have hS2 := hHeld.alloc hHeld.size (.cells #[] 9)
      refine hK.out _ _ (hS2.mono (Nat.le_of_lt hz0)) (fun hHeld2 => ?_)
      clear hK K hHeld2 hHeld o_b
      try simp only [Act.put, List.setIfInBounds_toArray, List.set_cons_zero, List.set_cons_succ]
      generalize y35.alloc (.cells #[] 9) = y48 at *
      generalize (Value.slice (some ⟨y35.heap.size, 0, none⟩) 0 0) = s_c at *
      have A_b_c : ApartV s_b s_c := hA_b
      clear hA_b
      have o_b := hK_b
      clear hK_b
      have o_c := hN
      clear hN
      have hHeld := hS2
      clear hS2
      refine wpAnyH_ready (rs := [0]) (by kernel_rfl) (by simp) ?_
      refine AllReadyH.cons rfl (fun K hK => ?_) AllReadyH.nil
      go_simp
      have hN := copy_made y48 9 1 (W0.heap.size) hHeld.size
      have hA_b := apart_new o_b
      have hK_b := kept_made o_b (.cells #[] 9)
      have hA_c := apart_new o_c
      have hK_c := kept_made o_c (.cells #[] 9)
      have hS2 := hHeld.alloc hHeld.size (.cells #[] 9)
      refine hK.out _ _ (hS2.mono (Nat.le_of_lt hz0)) (fun hHeld2 => ?_)
      clear hK K hHeld2 hHeld o_b o_c
      try simp only [Act.put, List.setIfInBounds_toArray, List.set_cons_zero, List.set_cons_succ]
      generalize y48.alloc (.cells #[] 9) = y49 at *
      generalize (Value.slice (some ⟨y48.heap.size, 0, none⟩) 0 0) = s_a at *
      have A_a_b : ApartV s_a s_b := hA_b.symm
      clear hA_b
      have A_a_c : ApartV s_a s_c := hA_c.symm
      clear hA_c
      have o_b := hK_b
      clear hK_b
      have o_c := hK_c
      clear hK_c
      have o_a := hN
      clear hN
      have hHeld := hS2
      clear hS2
      refine wpAnyH_ready (rs := [3]) (by kernel_rfl) (by simp) ?_
      refine AllReadyH.cons rfl (fun K hK => ?_) AllReadyH.nil
      refine step_append_any rfl (.tmp 3) (.tmp 5) rfl (W0.heap.size) s_a 0 [] (by rfl) o_a a1 is (by rfl) (HF1.out _ (hHeld.mono (Nat.le_of_lt hz0))) (by simp; omega) hHeld.size ?_
      intro va y50 hN hg hv
      rw [Nat.zero_add, List.nil_append] at hN
      have hS2 := below_grown hHeld o_a hg (Nat.le_refl _) hHeld.size
      have hK_b := kept_grown o_b hg (A_a_b.symm)
      have hA_b := apart_grown o_b hv (A_a_b.symm)
      have hK_c := kept_grown o_c hg (A_a_c.symm)
      have hA_c := apart_grown o_c hv (A_a_c.symm)
      clear hg hv hHeld o_b o_c o_a A_a_b A_a_c
      obtain ⟨q_a, c_a, rfl⟩ := touch_slice hN
      have A_a_b := hA_b.symm
      have o_b := hK_b
      clear hA_b hK_b
      have A_a_c := hA_c.symm
      have o_c := hK_c
      clear hA_c hK_c
      have o_a := hN
      clear hN
      refine hK.out _ _ (hS2.mono (Nat.le_of_lt hz0)) (fun _ => ?_)
      clear hK K
      have hHeld := hS2
      clear hS2
      try simp only [Act.put, List.setIfInBounds_toArray]
      refine wpAnyH_ready (rs := [7]) (by kernel_rfl) (by simp) ?_
      refine AllReadyH.cons rfl (fun K hK => ?_) AllReadyH.nil
      refine step_append_any rfl (.tmp 7) (.tmp 9) rfl (W0.heap.size) s_b 0 [] (by rfl) o_b a2 ask (by rfl) (HF2.out _ (hHeld.mono (Nat.le_of_lt hz0))) (by simp; omega) hHeld.size ?_
      intro vb y51 hN hg hv
      rw [Nat.zero_add, List.nil_append] at hN
      have hS2 := below_grown hHeld o_b hg (Nat.le_refl _) hHeld.size
      have hK_c := kept_grown o_c hg (A_b_c.symm)
      have hA_c := apart_grown o_c hv (A_b_c.symm)
      have hK_a := kept_grown o_a hg (A_a_b)
      have hA_a := apart_grown o_a hv (A_a_b)
      clear hg hv hHeld o_b o_c o_a A_b_c A_a_b
      obtain ⟨q_b, c_b, rfl⟩ := touch_slice hN
      have A_b_c := hA_c.symm
      have o_c := hK_c
      clear hA_c hK_c
      have A_a_b := hA_a
      have o_a := hK_a
      clear hA_a hK_a
      have o_b := hN
      clear hN
      refine hK.out _ _ (hS2.mono (Nat.le_of_lt hz0)) (fun _ => ?_)
      clear hK K
      have hHeld := hS2
      clear hS2
      try simp only [Act.put]
      refine wpAnyH_ready (rs := [11]) (by kernel_rfl) (by simp) ?_
      refine AllReadyH.cons rfl (fun K hK => ?_) AllReadyH.nil
      refine step_append_any rfl (.tmp 11) (.tmp 13) rfl (W0.heap.size) s_c 0 [] (by rfl) o_c a3 ts (by rfl) (HF3.out _ (hHeld.mono (Nat.le_of_lt hz0))) (by simp; omega) hHeld.size ?_
      intro vc y52 hN hg hv
      rw [Nat.zero_add, List.nil_append] at hN
      have hS2 := below_grown hHeld o_c hg (Nat.le_refl _) hHeld.size
      have hK_b := kept_grown o_b hg (A_b_c)
      have hA_b := apart_grown o_b hv (A_b_c)
      have hK_a := kept_grown o_a hg (A_a_c)
      have hA_a := apart_grown o_a hv (A_a_c)
      clear hg hv hHeld o_b o_c o_a A_b_c A_a_c
      obtain ⟨q_c, c_c, rfl⟩ := touch_slice hN
      have A_b_c := hA_b
      have o_b := hK_b
      clear hA_b hK_b
      have A_a_c := hA_a
      have o_a := hK_a
      clear hA_a hK_a
      have o_c := hN
      clear hN
      refine hK.out _ _ (hS2.mono (Nat.le_of_lt hz0)) (fun _ => ?_)
      clear hK K
      have hHeld := hS2
      clear hS2
      try simp only [Act.put]
      have hSS := hHeld.mono (Nat.le_of_lt hz0)
      refine take_dst (i := 12) 15 (v := ?_) rfl rfl (by kernel_rfl) (by kernel_rfl) (by kernel_rfl) (fun _ _ _ h => h) (Or.inl ⟨by rfl, ?_⟩) (by assumption) ?_
      case refine_2 => ((intro w hSw); (try dsimp only at hSw); go_simp; (try with_reducible rfl))
      try simp only [Act.put]
      refine wpAnyH_ready (rs := [13]) (by kernel_rfl) (by simp) ?_
      refine AllReadyH.cons rfl (fun K hK => ?_) AllReadyH.nil
      have HZ3 := hid ((hHeld.block (w.heap.size + 1) hz0).trans HZ0.out)
      obtain ⟨z0, z1, z2⟩ := rel_three HZ3.out
      have f0 := st_thaw HZ3.out 0
      have f1 := st_thaw HZ3.out 1
      have f2 := st_thaw HZ3.out 2
      go_simp
      refine hK.out _ _ (rel_below hSS (Nat.le_refl _) _ _ _) (fun hS3 => ?_)
      clear hK K
      try simp only [Act.put]
      refine wpAnyH_done (by kernel_rfl) ?_ _
      have HB3 := hid (HB0.out.trans (hSS.mono (Nat.le_succ _)))
      have HO := hid (show Own3 w.heap.size (((y52.setCell ⟨w.heap.size + 1, 0, none⟩ (.slice q_a is.length c_a)).setCell ⟨w.heap.size + 1, 1, none⟩ (.slice q_b ask.length c_b)).setCell ⟨w.heap.size + 1, 2, none⟩ (.slice q_c ts.length c_c)) (.slice q_a is.length c_a) (.slice q_b ask.length c_b) (.slice q_c ts.length c_c) is ask ts from
        ⟨own_base (rel_own o_a hz0 (rel_step _ _ _ _ _)) HB0.out.size, own_base (rel_own o_b hz0 (rel_step _ _ _ _ _)) HB0.out.size, own_base (rel_own o_c hz0 (rel_step _ _ _ _ _)) HB0.out.size, A_a_b, A_a_c, A_b_c⟩)
      clear o_a o_b o_c A_a_b A_a_c A_b_c hHeld hS3 hSS
      go_wp2
      exact bodyPost_ret (v := .agg #[(.slice q_a is.length c_a), (.slice q_b ask.length c_b), (.slice q_c ts.length c_c)]) (by simp [results, Tryz.results21, go_sem, z0, z1, z2]) rfl ⟨_, _, _, rfl, rel_below HB3.out (Nat.le_succ _) _ _ _, HO.out⟩
  · skip
    go_simp
    have hN := copy_made y0 9 1 (W0.heap.size) hHeld.size
    have hS2 := hHeld.alloc hHeld.size (.cells #[] 9)
    refine hK.out _ _ (hS2.mono (Nat.le_of_lt hz0)) (fun hHeld2 => ?_)
    clear hK K hHeld2 hHeld 
    try simp only [Act.put, List.setIfInBounds_toArray, List.set_cons_zero, List.set_cons_succ]
    generalize y0.alloc (.cells #[] 9) = y53 at *
    generalize (Value.slice (some ⟨y0.heap.size, 0, none⟩) 0 0) = s_c at *
    have o_c := hN
    clear hN
    have hHeld := hS2
    clear hS2
    refine wpAnyH_ready (rs := [0, 4]) (by kernel_rfl) (by simp) ?_
    refine AllReadyH.cons rfl (fun K hK => ?_) (AllReadyH.cons rfl (fun K hK => ?_) AllReadyH.nil)
    · skip
      go_simp
      have hN := copy_made y53 9 1 (W0.heap.size) hHeld.size
      have hA_c := apart_new o_c
      have hK_c := kept_made o_c (.cells #[] 9)
      have hS2 := hHeld.alloc hHeld.size (.cells #[] 9)
      refine hK.out _ _ (hS2.mono (Nat.le_of_lt hz0)) (fun hHeld2 => ?_)
      clear hK K hHeld2 hHeld o_c
      try simp only [Act.put, List.setIfInBounds_toArray, List.set_cons_zero, List.set_cons_succ]
      generalize y53.alloc (.cells #[] 9) = y54 at *
      generalize (Value.slice (some ⟨y53.heap.size, 0, none⟩) 0 0) = s_a at *
      have A_a_c : ApartV s_a s_c := hA_c.symm
      clear hA_c
      have o_c := hK_c
      clear hK_c
      have o_a := hN
      clear hN
      have hHeld := hS2
      clear hS2
      refine wpAnyH_ready (rs := [3, 4]) (by kernel_rfl) (by simp) ?_
      refine AllReadyH.cons rfl (fun K hK => ?_) (AllReadyH.cons rfl (fun K hK => ?_) AllReadyH.nil)
      · skip
        refine step_append_any rfl (.tmp 3) (.tmp 5) rfl (W0.heap.size) s_a 0 [] (by rfl) o_a a1 is (by rfl) (HF1.out _ (hHeld.mono (Nat.le_of_lt hz0))) (by simp; omega) hHeld.size ?_
        intro va y55 hN hg hv
        rw [Nat.zero_add, List.nil_append] at hN
        have hS2 := below_grown hHeld o_a hg (Nat.le_refl _) hHeld.size
        have hK_c := kept_grown o_c hg (A_a_c.symm)
        have hA_c := apart_grown o_c hv (A_a_c.symm)
        clear hg hv hHeld o_c o_a A_a_c
        obtain ⟨q_a, c_a, rfl⟩ := touch_slice hN
        have A_a_c := hA_c.symm
        have o_c := hK_c
        clear hA_c hK_c
        have o_a := hN
        clear hN
        refine hK.out _ _ (hS2.mono (Nat.le_of_lt hz0)) (fun _ => ?_)
        clear hK K
        have hHeld := hS2
        clear hS2
        try simp only [Act.put, List.setIfInBounds_toArray]
        refine wpAnyH_ready (rs := [4]) (by kernel_rfl) (by simp) ?_
        refine AllReadyH.cons rfl (fun K hK => ?_) AllReadyH.nil
        go_simp
        have hN := copy_made y55 9 1 (W0.heap.size) hHeld.size
        have hA_c := apart_new o_c
        have hK_c := kept_made o_c (.cells #[] 9)
        have hA_a := apart_new o_a
        have hK_a := kept_made o_a (.cells #[] 9)
        have hS2 := hHeld.alloc hHeld.size (.cells #[] 9)
        refine hK.out _ _ (hS2.mono (Nat.le_of_lt hz0)) (fun hHeld2 => ?_)
        clear hK K hHeld2 hHeld o_c o_a
        try simp only [Act.put, List.setIfInBounds_toArray, List.set_cons_zero, List.set_cons_succ]
        generalize y55.alloc (.cells #[] 9) = y56 at *
        generalize (Value.slice (some ⟨y55.heap.size, 0, none⟩) 0 0) = s_b at *
        have A_b_c : ApartV s_b s_c := hA_c.symm
        clear hA_c
        have A_a_b : ApartV (.slice q_a is.length c_a) s_b := hA_a
        clear hA_a
        have o_c := hK_c
        clear hK_c
        have o_a := hK_a
        clear hK_a
        have o_b := hN
        clear hN
        have hHeld := hS2
        clear hS2
        refine wpAnyH_ready (rs := [7]) (by kernel_rfl) (by simp) ?_
        refine AllReadyH.cons rfl (fun K hK => ?_) AllReadyH.nil
        refine step_append_any rfl (.tmp 7) (.tmp 9) rfl (W0.heap.size) s_b 0 [] (by rfl) o_b a2 ask (by rfl) (HF2.out _ (hHeld.mono (Nat.le_of_lt hz0))) (by simp; omega) hHeld.size ?_
        intro vb y57 hN hg hv
        rw [Nat.zero_add, List.nil_append] at hN
        have hS2 := below_grown hHeld o_b hg (Nat.le_refl _) hHeld.size
        have hK_c := kept_grown o_c hg (A_b_c.symm)
        have hA_c := apart_grown o_c hv (A_b_c.symm)
        have hK_a := kept_grown o_a hg (A_a_b)
        have hA_a := apart_grown o_a hv (A_a_b)
        clear hg hv hHeld o_c o_a o_b A_b_c A_a_b
        obtain ⟨q_b, c_b, rfl⟩ := touch_slice hN
        have A_b_c := hA_c.symm
        have o_c := hK_c
        clear hA_c hK_c
        have A_a_b := hA_a
        have o_a := hK_a
        clear hA_a hK_a
        have o_b := hN
        clear hN
        refine hK.out _ _ (hS2.mono (Nat.le_of_lt hz0)) (fun _ => ?_)
        clear hK K
        have hHeld := hS2
        clear hS2
        try simp only [Act.put, List.setIfInBounds_toArray]
        refine wpAnyH_ready (rs := [11]) (by kernel_rfl) (by simp) ?_
        refine AllReadyH.cons rfl (fun K hK => ?_) AllReadyH.nil
        refine step_append_any rfl (.tmp 11) (.tmp 13) rfl (W0.heap.size) s_c 0 [] (by rfl) o_c a3 ts (by rfl) (HF3.out _ (hHeld.mono (Nat.le_of_lt hz0))) (by simp; omega) hHeld.size ?_
        intro vc y58 hN hg hv
        rw [Nat.zero_add, List.nil_append] at hN
        have hS2 := below_grown hHeld o_c hg (Nat.le_refl _) hHeld.size
        have hK_a := kept_grown o_a hg (A_a_c)
        have hA_a := apart_grown o_a hv (A_a_c)
        have hK_b := kept_grown o_b hg (A_b_c)
        have hA_b := apart_grown o_b hv (A_b_c)
        clear hg hv hHeld o_c o_a o_b A_a_c A_b_c
        obtain ⟨q_c, c_c, rfl⟩ := touch_slice hN
        have A_a_c := hA_a
        have o_a := hK_a
        clear hA_a hK_a
        have A_b_c := hA_b
        have o_b := hK_b
        clear hA_b hK_b
        have o_c := hN
        clear hN
        refine hK.out _ _ (hS2.mono (Nat.le_of_lt hz0)) (fun _ => ?_)
        clear hK K
        have hHeld := hS2
        clear hS2
        try simp only [Act.put]
        have hSS := hHeld.mono (Nat.le_of_lt hz0)
        refine take_dst (i := 12) 15 (v := ?_) rfl rfl (by kernel_rfl) (by kernel_rfl) (by kernel_rfl) (fun _ _ _ h => h) (Or.inl ⟨by rfl, ?_⟩) (by assumption) ?_
        case refine_2 => ((intro w hSw); (try dsimp only at hSw); go_simp; (try with_reducible rfl))
        try simp only [Act.put]
        refine wpAnyH_ready (rs := [13]) (by kernel_rfl) (by simp) ?_
        refine AllReadyH.cons rfl (fun K hK => ?_) AllReadyH.nil
        have HZ3 := hid ((hHeld.block (w.heap.size + 1) hz0).trans HZ0.out)
        obtain ⟨z0, z1, z2⟩ := rel_three HZ3.out
        have f0 := st_thaw HZ3.out 0
        have f1 := st_thaw HZ3.out 1
        have f2 := st_thaw HZ3.out 2
        go_simp
        refine hK.out _ _ (rel_below hSS (Nat.le_refl _) _ _ _) (fun hS3 => ?_)
        clear hK K
        try simp only [Act.put]
        refine wpAnyH_done (by kernel_rfl) ?_ _
        have HB3 := hid (HB0.out.trans (hSS.mono (Nat.le_succ _)))
        have HO := hid (show Own3 w.heap.size (((y58.setCell ⟨w.heap.size + 1, 0, none⟩ (.slice q_a is.length c_a)).setCell ⟨w.heap.size + 1, 1, none⟩ (.slice q_b ask.length c_b)).setCell ⟨w.heap.size + 1, 2, none⟩ (.slice q_c ts.length c_c)) (.slice q_a is.length c_a) (.slice q_b ask.length c_b) (.slice q_c ts.length c_c) is ask ts from
          ⟨own_base (rel_own o_a hz0 (rel_step _ _ _ _ _)) HB0.out.size, own_base (rel_own o_b hz0 (rel_step _ _ _ _ _)) HB0.out.size, own_base (rel_own o_c hz0 (rel_step _ _ _ _ _)) HB0.out.size, A_a_b, A_a_c, A_b_c⟩)
        clear o_a o_b o_c A_a_b A_a_c A_b_c hHeld hS3 hSS
        go_wp2
        exact bodyPost_ret (v := .agg #[(.slice q_a is.length c_a), (.slice q_b ask.length c_b), (.slice q_c ts.length c_c)]) (by simp [results, Tryz.results21, go_sem, z0, z1, z2]) rfl ⟨_, _, _, rfl, rel_below HB3.out (Nat.le_succ _) _ _ _, HO.out⟩
      · skip
        go_simp
        have hN := copy_made y54 9 1 (W0.heap.size) hHeld.size
        have hA_c := apart_new o_c
        have hK_c := kept_made o_c (.cells #[] 9)
        have hA_a := apart_new o_a
        have hK_a := kept_made o_a (.cells #[] 9)
        have hS2 := hHeld.alloc hHeld.size (.cells #[] 9)
        refine hK.out _ _ (hS2.mono (Nat.le_of_lt hz0)) (fun hHeld2 => ?_)
        clear hK K hHeld2 hHeld o_c o_a
        try simp only [Act.put, List.setIfInBounds_toArray, List.set_cons_zero, List.set_cons_succ]
        generalize y54.alloc (.cells #[] 9) = y59 at *
        generalize (Value.slice (some ⟨y54.heap.size, 0, none⟩) 0 0) = s_b at *
        have A_b_c : ApartV s_b s_c := hA_c.symm
        clear hA_c
        have A_a_b : ApartV s_a s_b := hA_a
        clear hA_a
        have o_c := hK_c
        clear hK_c
        have o_a := hK_a
        clear hK_a
        have o_b := hN
        clear hN
        have hHeld := hS2
        clear hS2
        refine wpAnyH_ready (rs := [3]) (by kernel_rfl) (by simp) ?_
        refine AllReadyH.cons rfl (fun K hK => ?_) AllReadyH.nil
        refine step_append_any rfl (.tmp 3) (.tmp 5) rfl (W0.heap.size) s_a 0 [] (by rfl) o_a a1 is (by rfl) (HF1.out _ (hHeld.mono (Nat.le_of_lt hz0))) (by simp; omega) hHeld.size ?_
        intro va y60 hN hg hv
        rw [Nat.zero_add, List.nil_append] at hN
        have hS2 := below_grown hHeld o_a hg (Nat.le_refl _) hHeld.size
        have hK_c := kept_grown o_c hg (A_a_c.symm)
        have hA_c := apart_grown o_c hv (A_a_c.symm)
        have hK_b := kept_grown o_b hg (A_a_b.symm)
        have hA_b := apart_grown o_b hv (A_a_b.symm)
        clear hg hv hHeld o_c o_a o_b A_a_c A_a_b
        obtain ⟨q_a, c_a, rfl⟩ := touch_slice hN
        have A_a_c := hA_c.symm
        have o_c := hK_c
        clear hA_c hK_c
        have A_a_b := hA_b.symm
        have o_b := hK_b
        clear hA_b hK_b
        have o_a := hN
        clear hN
        refine hK.out _ _ (hS2.mono (Nat.le_of_lt hz0)) (fun _ => ?_)
        clear hK K
        have hHeld := hS2
        clear hS2
        try simp only [Act.put, List.setIfInBounds_toArray]
        refine wpAnyH_ready (rs := [7]) (by kernel_rfl) (by simp) ?_
        refine AllReadyH.cons rfl (fun K hK => ?_) AllReadyH.nil
        refine step_append_any rfl (.tmp 7) (.tmp 9) rfl (W0.heap.size) s_b 0 [] (by rfl) o_b a2 ask (by rfl) (HF2.out _ (hHeld.mono (Nat.le_of_lt hz0))) (by simp; omega) hHeld.size ?_
        intro vb y61 hN hg hv
        rw [Nat.zero_add, List.nil_append] at hN
        have hS2 := below_grown hHeld o_b hg (Nat.le_refl _) hHeld.size
        have hK_c := kept_grown o_c hg (A_b_c.symm)
        have hA_c := apart_grown o_c hv (A_b_c.symm)
        have hK_a := kept_grown o_a hg (A_a_b)
        have hA_a := apart_grown o_a hv (A_a_b)
        clear hg hv hHeld o_c o_a o_b A_b_c A_a_b
        obtain ⟨q_b, c_b, rfl⟩ := touch_slice hN
        have A_b_c := hA_c.symm
        have o_c := hK_c
        clear hA_c hK_c
        have A_a_b := hA_a
        have o_a := hK_a
        clear hA_a hK_a
        have o_b := hN
        clear hN
        refine hK.out _ _ (hS2.mono (Nat.le_of_lt hz0)) (fun _ => ?_)
        clear hK K
        have hHeld := hS2
        clear hS2
        try simp only [Act.put]
        refine wpAnyH_ready (rs := [11]) (by kernel_rfl) (by simp) ?_
        refine AllReadyH.cons rfl (fun K hK => ?_) AllReadyH.nil
        refine step_append_any rfl (.tmp 11) (.tmp 13) rfl (W0.heap.size) s_c 0 [] (by rfl) o_c a3 ts (by rfl) (HF3.out _ (hHeld.mono (Nat.le_of_lt hz0))) (by simp; omega) hHeld.size ?_
        intro vc y62 hN hg hv
        rw [Nat.zero_add, List.nil_append] at hN
        have hS2 := below_grown hHeld o_c hg (Nat.le_refl _) hHeld.size
        have hK_a := kept_grown o_a hg (A_a_c)
        have hA_a := apart_grown o_a hv (A_a_c)
        have hK_b := kept_grown o_b hg (A_b_c)
        have hA_b := apart_grown o_b hv (A_b_c)
        clear hg hv hHeld o_c o_a o_b A_a_c A_b_c
        obtain ⟨q_c, c_c, rfl⟩ := touch_slice hN
        have A_a_c := hA_a
        have o_a := hK_a
        clear hA_a hK_a
        have A_b_c := hA_b
        have o_b := hK_b
        clear hA_b hK_b
        have o_c := hN
        clear hN
        refine hK.out _ _ (hS2.mono (Nat.le_of_lt hz0)) (fun _ => ?_)
        clear hK K
        have hHeld := hS2
        clear hS2
        try simp only [Act.put]
        have hSS := hHeld.mono (Nat.le_of_lt hz0)
        refine take_dst (i := 12) 15 (v := ?_) rfl rfl (by kernel_rfl) (by kernel_rfl) (by kernel_rfl) (fun _ _ _ h => h) (Or.inl ⟨by rfl, ?_⟩) (by assumption) ?_
        case refine_2 => ((intro w hSw); (try dsimp only at hSw); go_simp; (try with_reducible rfl))
        try simp only [Act.put]
        refine wpAnyH_ready (rs := [13]) (by kernel_rfl) (by simp) ?_
        refine AllReadyH.cons rfl (fun K hK => ?_) AllReadyH.nil
        have HZ3 := hid ((hHeld.block (w.heap.size + 1) hz0).trans HZ0.out)
        obtain ⟨z0, z1, z2⟩ := rel_three HZ3.out
        have f0 := st_thaw HZ3.out 0
        have f1 := st_thaw HZ3.out 1
        have f2 := st_thaw HZ3.out 2
        go_simp
        refine hK.out _ _ (rel_below hSS (Nat.le_refl _) _ _ _) (fun hS3 => ?_)
        clear hK K
        try simp only [Act.put]
        refine wpAnyH_done (by kernel_rfl) ?_ _
        have HB3 := hid (HB0.out.trans (hSS.mono (Nat.le_succ _)))
        have HO := hid (show Own3 w.heap.size (((y62.setCell ⟨w.heap.size + 1, 0, none⟩ (.slice q_a is.length c_a)).setCell ⟨w.heap.size + 1, 1, none⟩ (.slice q_b ask.length c_b)).setCell ⟨w.heap.size + 1, 2, none⟩ (.slice q_c ts.length c_c)) (.slice q_a is.length c_a) (.slice q_b ask.length c_b) (.slice q_c ts.length c_c) is ask ts from
          ⟨own_base (rel_own o_a hz0 (rel_step _ _ _ _ _)) HB0.out.size, own_base (rel_own o_b hz0 (rel_step _ _ _ _ _)) HB0.out.size, own_base (rel_own o_c hz0 (rel_step _ _ _ _ _)) HB0.out.size, A_a_b, A_a_c, A_b_c⟩)
        clear o_a o_b o_c A_a_b A_a_c A_b_c hHeld hS3 hSS
        go_wp2
        exact bodyPost_ret (v := .agg #[(.slice q_a is.length c_a), (.slice q_b ask.length c_b), (.slice q_c ts.length c_c)]) (by simp [results, Tryz.results21, go_sem, z0, z1, z2]) rfl ⟨_, _, _, rfl, rel_below HB3.out (Nat.le_succ _) _ _ _, HO.out⟩
    · skip
      go_simp
      have hN := copy_made y53 9 1 (W0.heap.size) hHeld.size
      have hA_c := apart_new o_c
      have hK_c := kept_made o_c (.cells #[] 9)
      have hS2 := hHeld.alloc hHeld.size (.cells #[] 9)
      refine hK.out _ _ (hS2.mono (Nat.le_of_lt hz0)) (fun hHeld2 => ?_)
      clear hK K hHeld2 hHeld o_c
      try simp only [Act.put, List.setIfInBounds_toArray, List.set_cons_zero, List.set_cons_succ]
      generalize y53.alloc (.cells #[] 9) = y63 at *
      generalize (Value.slice (some ⟨y53.heap.size, 0, none⟩) 0 0) = s_b at *
      have A_b_c : ApartV s_b s_c := hA_c.symm
      clear hA_c
      have o_c := hK_c
      clear hK_c
      have o_b := hN
      clear hN
      have hHeld := hS2
      clear hS2
      refine wpAnyH_ready (rs := [0]) (by kernel_rfl) (by simp) ?_
      refine AllReadyH.cons rfl (fun K hK => ?_) AllReadyH.nil
      go_simp
      have hN := copy_made y63 9 1 (W0.heap.size) hHeld.size
      have hA_c := apart_new o_c
      have hK_c := kept_made o_c (.cells #[] 9)
      have hA_b := apart_new o_b
      have hK_b := kept_made o_b (.cells #[] 9)
      have hS2 := hHeld.alloc hHeld.size (.cells #[] 9)
      refine hK.out _ _ (hS2.mono (Nat.le_of_lt hz0)) (fun hHeld2 => ?_)
      clear hK K hHeld2 hHeld o_c o_b
      try simp only [Act.put, List.setIfInBounds_toArray, List.set_cons_zero, List.set_cons_succ]
      generalize y63.alloc (.cells #[] 9) = y64 at *
      generalize (Value.slice (some ⟨y63.heap.size, 0, none⟩) 0 0) = s_a at *
      have A_a_c : ApartV s_a s_c := hA_c.symm
      clear hA_c
      have A_a_b : ApartV s_a s_b := hA_b.symm
      clear hA_b
      have o_c := hK_c
      clear hK_c
      have o_b := hK_b
      clear hK_b
      have o_a := hN
      clear hN
      have hHeld := hS2
      clear hS2
      refine wpAnyH_ready (rs := [3]) (by kernel_rfl) (by simp) ?_
      refine AllReadyH.cons rfl (fun K hK => ?_) AllReadyH.nil
      refine step_append_any rfl (.tmp 3) (.tmp 5) rfl (W0.heap.size) s_a 0 [] (by rfl) o_a a1 is (by rfl) (HF1.out _ (hHeld.mono (Nat.le_of_lt hz0))) (by simp; omega) hHeld.size ?_
      intro va y65 hN hg hv
      rw [Nat.zero_add, List.nil_append] at hN
      have hS2 := below_grown hHeld o_a hg (Nat.le_refl _) hHeld.size
      have hK_c := kept_grown o_c hg (A_a_c.symm)
      have hA_c := apart_grown o_c hv (A_a_c.symm)
      have hK_b := kept_grown o_b hg (A_a_b.symm)
      have hA_b := apart_grown o_b hv (A_a_b.symm)
      clear hg hv hHeld o_c o_b o_a A_a_c A_a_b
      obtain ⟨q_a, c_a, rfl⟩ := touch_slice hN
      have A_a_c := hA_c.symm
      have o_c := hK_c
      clear hA_c hK_c
      have A_a_b := hA_b.symm
      have o_b := hK_b
      clear hA_b hK_b
      have o_a := hN
      clear hN
      refine hK.out _ _ (hS2.mono (Nat.le_of_lt hz0)) (fun _ => ?_)
      clear hK K
      have hHeld := hS2
      clear hS2
      try simp only [Act.put, List.setIfInBounds_toArray]
      refine wpAnyH_ready (rs := [7]) (by kernel_rfl) (by simp) ?_
      refine AllReadyH.cons rfl (fun K hK => ?_) AllReadyH.nil
      refine step_append_any rfl (.tmp 7) (.tmp 9) rfl (W0.heap.size) s_b 0 [] (by rfl) o_b a2 ask (by rfl) (HF2.out _ (hHeld.mono (Nat.le_of_lt hz0))) (by simp; omega) hHeld.size ?_
      intro vb y66 hN hg hv
      rw [Nat.zero_add, List.nil_append] at hN
      have hS2 := below_grown hHeld o_b hg (Nat.le_refl _) hHeld.size
      have hK_c := kept_grown o_c hg (A_b_c.symm)
      have hA_c := apart_grown o_c hv (A_b_c.symm)
      have hK_a := kept_grown o_a hg (A_a_b)
      have hA_a := apart_grown o_a hv (A_a_b)
      clear hg hv hHeld o_c o_b o_a A_b_c A_a_b
      obtain ⟨q_b, c_b, rfl⟩ := touch_slice hN
      have A_b_c := hA_c.symm
      have o_c := hK_c
      clear hA_c hK_c
      have A_a_b := hA_a
      have o_a := hK_a
      clear hA_a hK_a
      have o_b := hN
      clear hN
      refine hK.out _ _ (hS2.mono (Nat.le_of_lt hz0)) (fun _ => ?_)
      clear hK K
      have hHeld := hS2
      clear hS2
      try simp only [Act.put]
      refine wpAnyH_ready (rs := [11]) (by kernel_rfl) (by simp) ?_
      refine AllReadyH.cons rfl (fun K hK => ?_) AllReadyH.nil
      refine step_append_any rfl (.tmp 11) (.tmp 13) rfl (W0.heap.size) s_c 0 [] (by rfl) o_c a3 ts (by rfl) (HF3.out _ (hHeld.mono (Nat.le_of_lt hz0))) (by simp; omega) hHeld.size ?_
      intro vc y67 hN hg hv
      rw [Nat.zero_add, List.nil_append] at hN
      have hS2 := below_grown hHeld o_c hg (Nat.le_refl _) hHeld.size
      have hK_b := kept_grown o_b hg (A_b_c)
      have hA_b := apart_grown o_b hv (A_b_c)
      have hK_a := kept_grown o_a hg (A_a_c)
      have hA_a := apart_grown o_a hv (A_a_c)
      clear hg hv hHeld o_c o_b o_a A_b_c A_a_c
      obtain ⟨q_c, c_c, rfl⟩ := touch_slice hN
      have A_b_c := hA_b
      have o_b := hK_b
      clear hA_b hK_b
      have A_a_c := hA_a
      have o_a := hK_a
      clear hA_a hK_a
      have o_c := hN
      clear hN
      refine hK.out _ _ (hS2.mono (Nat.le_of_lt hz0)) (fun _ => ?_)
      clear hK K
      have hHeld := hS2
      clear hS2
      try simp only [Act.put]
      have hSS := hHeld.mono (Nat.le_of_lt hz0)
      refine take_dst (i := 12) 15 (v := ?_) rfl rfl (by kernel_rfl) (by kernel_rfl) (by kernel_rfl) (fun _ _ _ h => h) (Or.inl ⟨by rfl, ?_⟩) (by assumption) ?_
      case refine_2 => ((intro w hSw); (try dsimp only at hSw); go_simp; (try with_reducible rfl))
      try simp only [Act.put]
      refine wpAnyH_ready (rs := [13]) (by kernel_rfl) (by simp) ?_
      refine AllReadyH.cons rfl (fun K hK => ?_) AllReadyH.nil
      have HZ3 := hid ((hHeld.block (w.heap.size + 1) hz0).trans HZ0.out)
      obtain ⟨z0, z1, z2⟩ := rel_three HZ3.out
      have f0 := st_thaw HZ3.out 0
      have f1 := st_thaw HZ3.out 1
      have f2 := st_thaw HZ3.out 2
      go_simp
      refine hK.out _ _ (rel_below hSS (Nat.le_refl _) _ _ _) (fun hS3 => ?_)
      clear hK K
      try simp only [Act.put]
      refine wpAnyH_done (by kernel_rfl) ?_ _
      have HB3 := hid (HB0.out.trans (hSS.mono (Nat.le_succ _)))
      have HO := hid (show Own3 w.heap.size (((y67.setCell ⟨w.heap.size + 1, 0, none⟩ (.slice q_a is.length c_a)).setCell ⟨w.heap.size + 1, 1, none⟩ (.slice q_b ask.length c_b)).setCell ⟨w.heap.size + 1, 2, none⟩ (.slice q_c ts.length c_c)) (.slice q_a is.length c_a) (.slice q_b ask.length c_b) (.slice q_c ts.length c_c) is ask ts from
        ⟨own_base (rel_own o_a hz0 (rel_step _ _ _ _ _)) HB0.out.size, own_base (rel_own o_b hz0 (rel_step _ _ _ _ _)) HB0.out.size, own_base (rel_own o_c hz0 (rel_step _ _ _ _ _)) HB0.out.size, A_a_b, A_a_c, A_b_c⟩)
      clear o_a o_b o_c A_a_b A_a_c A_b_c hHeld hS3 hSS
      go_wp2
      exact bodyPost_ret (v := .agg #[(.slice q_a is.length c_a), (.slice q_b ask.length c_b), (.slice q_c ts.length c_c)]) (by simp [results, Tryz.results21, go_sem, z0, z1, z2]) rfl ⟨_, _, _, rfl, rel_below HB3.out (Nat.le_succ _) _ _ _, HO.out⟩
end Go.Proofs.YtjaaplcgphlccaaGreatDoor
