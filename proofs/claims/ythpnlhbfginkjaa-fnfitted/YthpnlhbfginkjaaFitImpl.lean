/- The clock fitted by the program. -/
import Derived.Test.YthpnlhbfginkjaaFitRead
import Derived.Test.YthpnlhbfginkjaaFlatRow
namespace Go.Proofs.Ythpnlhbfginkjaa
open Go.RowKit
open Go.Lib (hid)

attribute [local go_sem] run_fadd run_fsub run_fmul run_fquo run_store_float fw_cell2

theorem fw_thaw (op : BinOp) (x y : Nat) (w : World) (p : Addr) : (fw op x y w).frozen? p = w.frozen? p := by
  unfold fw
  split <;> rfl

attribute [local go_sem] fw_thaw

theorem fit_lt (op : BinOp) (x y : Nat) (w : World) : fb op x y w < 18446744073709551616 := by
  cases h : floatBits op .f64 x y with
  | none =>
    unfold fb
    rw [h]
    exact cut_lt _ _ _
  | some r =>
    rw [fb_some h]
    have := floatBits_wf h
    simp [Lit.wf] at this
    exact this

theorem sqs_fst (ks : List (Nat × Nat)) : (sqs ks).map Prod.fst = ks.map Prod.fst := by unfold sqs; rw [List.map_map]; rfl
theorem sqs_snd (ks : List (Nat × Nat)) : (sqs ks).map Prod.snd = ks.map Prod.fst := by unfold sqs; rw [List.map_map]; rfl

/-- What fitting answers. -/
def FittedPost (ks : List (Nat × Nat)) (w : World) (e : Ending) (w' : World) : Prop :=
  ∃ r s, e = .returned (.agg #[.float .f64 r, .float .f64 s]) ∧ (FS (rateO ks) r ∧ FS (offO ks) s) ∧ (r < 18446744073709551616 ∧ s < 18446744073709551616) ∧ Below w.heap.size w w'

theorem fitted_post {ks : List (Nat × Nat)} {w w' : World} {e : Ending} (r s : Nat) (h1 : e = .returned (.agg #[.float .f64 r, .float .f64 s])) (h2 : FS (rateO ks) r ∧ FS (offO ks) s) (h3 : r < 18446744073709551616 ∧ s < 18446744073709551616) (h4 : Below w.heap.size w w') : FittedPost ks w e w' := ⟨r, s, h1, h2, h3, h4⟩

set_option maxRecDepth 20000 in
set_option maxHeartbeats 8000000 in
theorem fitted_calls (ks : List (Nat × Nat)) (hk : ks.length ≤ 100) (va vb : Value) (w : World) (ha : RowFl w va (ks.map Prod.fst)) (hb : RowFl w vb (ks.map Prod.snd)) :
    Calls Try.prog 44 #[.agg #[va, vb]] w (FittedPost ks w) := by
  obtain ⟨p, c, rfl, _⟩ := row_of ha
  obtain ⟨q, d, rfl, _⟩ := row_of hb
  obtain ⟨W0, hW0⟩ : ∃ W0, W0 = (w.alloc (.cells #[.slice p ks.length c, .slice q ks.length d] 72)).alloc (.cells #[.float .f64 0, .float .f64 0] 34) := ⟨_, rfl⟩
  have HW0 := hid hW0
  have hb0 : Below w.heap.size w W0 := by rw [hW0]; exact ((Below.refl _ _).alloc (Nat.le_refl _) _).alloc (by simp) _
  have HB0 := hid hb0
  have HX : Hid (RBox W0 w.heap.size (.slice p ks.length c) (.slice q ks.length d)) := hid (by rw [hW0]; exact RBox.alloc (heap_alloc_new w _) _)
  have HD : Hid (DBox W0 (w.heap.size + 1) 0 0) := hid (by rw [hW0]; have h := heap_alloc_new (w.alloc (.cells #[.slice p ks.length c, .slice q ks.length d] 72)) (.cells #[.float .f64 0, .float .f64 0] 34); rw [show (w.alloc (.cells #[.slice p ks.length c, .slice q ks.length d] 72)).heap.size = w.heap.size + 1 by simp] at h; exact h)
  have hz0 : w.heap.size + 1 < W0.heap.size := by rw [hW0]; simp
  have HA : Hid (RowFl W0 (.slice p ks.length c) (ks.map Prod.fst)) := hid (ha.on hb0)
  have HV : Hid (RowFl W0 (.slice q ks.length d) (ks.map Prod.snd)) := hid (hb.on hb0)
  have HSA : Hid (RowFl W0 (.slice p ks.length c) ((sqs ks).map Prod.fst)) := hid (by rw [sqs_fst]; exact HA.out)
  have HSV : Hid (RowFl W0 (.slice p ks.length c) ((sqs ks).map Prod.snd)) := hid (by rw [sqs_snd]; exact HA.out)
  clear hW0 hb0 ha hb
  have hl1 : (ks.map Prod.fst).length ≤ 1000000000 := by rw [List.length_map]; omega
  have hl2 : (ks.map Prod.snd).length ≤ 1000000000 := by rw [List.length_map]; omega
  have hq1 : (sqs ks).length ≤ 1000000 := by unfold sqs; rw [List.length_map]; omega
  have j0 : ∀ W : World, Below W0.heap.size W0 W → W.cell? ⟨w.heap.size, 0, none⟩ = some (.slice p ks.length c) := fun W h => (h.cell (p := ⟨w.heap.size, 0, none⟩) (by show w.heap.size < W0.heap.size; omega)).trans HX.out.facts.1
  have j1 : ∀ W : World, Below W0.heap.size W0 W → W.cell? ⟨w.heap.size, 1, none⟩ = some (.slice q ks.length d) := fun W h => (h.cell (p := ⟨w.heap.size, 1, none⟩) (by show w.heap.size < W0.heap.size; omega)).trans HX.out.facts.2.1
  go_enter Try.func44, Try.ntmps44
  go_wp2
  rw [← HW0.out]
  refine wp_region_held_drew (S := fun w' => Below W0.heap.size W0 w') (by kernel_rfl) (Below.drew (Below.refl _ _)) (fun hHeld => ?_)
  refine take_at (i := 0) 13 (v := ?_) rfl rfl (by kernel_rfl) (by kernel_rfl) (by kernel_rfl) (fun _ _ _ h => h) (Or.inl ⟨by rfl, ?_⟩) (by assumption) ?_
  case refine_2 => ((intro w hSw); (try dsimp only at hSw); go_simp; (try with_reducible rfl))
  try simp only [Act.put, List.setIfInBounds_toArray, List.set_cons_zero, List.set_cons_succ]
  refine take_at (i := 1) 14 (v := ?_) rfl rfl (by kernel_rfl) (by kernel_rfl) (by kernel_rfl) (fun _ _ _ h => h) (Or.inl ⟨by rfl, ?_⟩) (by assumption) ?_
  case refine_2 => ((intro w hSw); (try dsimp only at hSw); go_simp; (try with_reducible rfl))
  try simp only [Act.put, List.setIfInBounds_toArray, List.set_cons_zero, List.set_cons_succ]
  refine take_at (i := 3) 16 (v := ?_) rfl rfl (by kernel_rfl) (by kernel_rfl) (by kernel_rfl) (fun _ _ _ h => h) (Or.inl ⟨by rfl, ?_⟩) (by assumption) ?_
  case refine_2 => ((intro w hSw); (try dsimp only at hSw); go_simp; (try with_reducible rfl))
  try simp only [Act.put, List.setIfInBounds_toArray, List.set_cons_zero, List.set_cons_succ]
  refine take_at (i := 4) 17 (v := ?_) rfl rfl (by kernel_rfl) (by kernel_rfl) (by kernel_rfl) (fun _ _ _ h => h) (Or.inl ⟨by rfl, ?_⟩) (by assumption) ?_
  case refine_2 => ((intro w hSw); (try dsimp only at hSw); go_simp; (try with_reducible rfl))
  try simp only [Act.put, List.setIfInBounds_toArray, List.set_cons_zero, List.set_cons_succ]
  refine wpAnyH_ready (rs := [2]) (by kernel_rfl) (by simp) ?_
  refine AllReadyH.cons rfl (fun K hK => ?_) AllReadyH.nil
  go_simp
  go_at_call 38
  refine (sum_calls _ hl1 _ _ (HA.out.on hHeld)).mono ?_
  rintro e x1 ⟨r1, rfl, hr1, hy1⟩
  go_wp2_with fail
  refine hK.out _ _ (below_hop hHeld (Nat.le_refl _) hy1) (fun hHeld => ?_)
  clear hK K
  try simp only [Act.put, List.setIfInBounds_toArray, List.set_cons_zero, List.set_cons_succ]
  refine wpAnyH_ready (rs := [5]) (by kernel_rfl) (by simp) ?_
  refine AllReadyH.cons rfl (fun K hK => ?_) AllReadyH.nil
  go_simp
  go_at_call 38
  refine (sum_calls _ hl2 _ _ (HV.out.on hHeld)).mono ?_
  rintro e x2 ⟨r2, rfl, hr2, hy2⟩
  go_wp2_with fail
  refine hK.out _ _ (below_hop hHeld (Nat.le_refl _) hy2) (fun hHeld => ?_)
  clear hK K
  try simp only [Act.put, List.setIfInBounds_toArray, List.set_cons_zero, List.set_cons_succ]
  refine take_at (i := 6) 4 (v := ?_) rfl rfl (by kernel_rfl) (by kernel_rfl) (by kernel_rfl) (fun _ _ _ h => h) (Or.inl ⟨by rfl, ?_⟩) (by assumption) ?_
  case refine_2 => ((intro w hSw); (try dsimp only at hSw); go_simp; (try with_reducible rfl))
  try simp only [Act.put, List.setIfInBounds_toArray, List.set_cons_zero, List.set_cons_succ]
  refine take_at (i := 7) 5 (v := ?_) rfl rfl (by kernel_rfl) (by kernel_rfl) (by kernel_rfl) (fun _ _ _ h => h) (Or.inl ⟨by rfl, ?_⟩) (by assumption) ?_
  case refine_2 => ((intro w hSw); (try dsimp only at hSw); go_simp; (try with_reducible rfl))
  try simp only [Act.put, List.setIfInBounds_toArray, List.set_cons_zero, List.set_cons_succ]
  refine wpAnyH_done (by kernel_rfl) ?_ _
  have HF1 : Hid (FS (sxO ks) r1) := hid hr1
  have HF2 : Hid (FS (syO ks) r2) := hid hr2
  clear hr1 hr2 hy1 hy2
  go_wp2
  refine wp_region_held_drew (S := fun w' => Below W0.heap.size W0 w') (by kernel_rfl) (Below.drew hHeld) (fun hHeld => ?_)
  refine take_at (i := 0) 19 (v := ?_) rfl rfl (by kernel_rfl) (by kernel_rfl) (by kernel_rfl) (fun _ _ _ h => h) (Or.inl ⟨by rfl, ?_⟩) (by assumption) ?_
  case refine_2 => ((intro w hSw); (try dsimp only at hSw); go_simp; (try with_reducible rfl))
  try simp only [Act.put, List.setIfInBounds_toArray, List.set_cons_zero, List.set_cons_succ]
  refine take_at (i := 1) 20 (v := ?_) rfl rfl (by kernel_rfl) (by kernel_rfl) (by kernel_rfl) (fun _ _ _ h => h) (Or.inl ⟨by rfl, ?_⟩) (by assumption) ?_
  case refine_2 => ((intro w hSw); (try dsimp only at hSw); go_simp; (try with_reducible rfl))
  try simp only [Act.put, List.setIfInBounds_toArray, List.set_cons_zero, List.set_cons_succ]
  refine take_at (i := 2) 21 (v := ?_) rfl rfl (by kernel_rfl) (by kernel_rfl) (by kernel_rfl) (fun _ _ _ h => h) (Or.inl ⟨by rfl, ?_⟩) (by assumption) ?_
  case refine_2 => ((intro w hSw); (try dsimp only at hSw); go_simp; (try with_reducible rfl))
  try simp only [Act.put, List.setIfInBounds_toArray, List.set_cons_zero, List.set_cons_succ]
  refine take_at (i := 3) 22 (v := ?_) rfl rfl (by kernel_rfl) (by kernel_rfl) (by kernel_rfl) (fun _ _ _ h => h) (Or.inl ⟨by rfl, ?_⟩) (by assumption) ?_
  case refine_2 => ((intro w hSw); (try dsimp only at hSw); go_simp; (try with_reducible rfl))
  try simp only [Act.put, List.setIfInBounds_toArray, List.set_cons_zero, List.set_cons_succ]
  refine take_at (i := 6) 25 (v := ?_) rfl rfl (by kernel_rfl) (by kernel_rfl) (by kernel_rfl) (fun _ _ _ h => h) (Or.inl ⟨by rfl, ?_⟩) (by assumption) ?_
  case refine_2 => ((intro w hSw); (try dsimp only at hSw); go_simp; (try with_reducible rfl))
  try simp only [Act.put, List.setIfInBounds_toArray, List.set_cons_zero, List.set_cons_succ]
  refine take_at (i := 7) 26 (v := ?_) rfl rfl (by kernel_rfl) (by kernel_rfl) (by kernel_rfl) (fun _ _ _ h => h) (Or.inl ⟨by rfl, ?_⟩) (by assumption) ?_
  case refine_2 => ((intro w hSw); (try dsimp only at hSw); go_simp; (try with_reducible rfl))
  try simp only [Act.put, List.setIfInBounds_toArray, List.set_cons_zero, List.set_cons_succ]
  refine take_at (i := 8) 27 (v := ?_) rfl rfl (by kernel_rfl) (by kernel_rfl) (by kernel_rfl) (fun _ _ _ h => h) (Or.inl ⟨by rfl, ?_⟩) (by assumption) ?_
  case refine_2 => ((intro w hSw); (try dsimp only at hSw); go_simp; (try with_reducible rfl))
  try simp only [Act.put, List.setIfInBounds_toArray, List.set_cons_zero, List.set_cons_succ]
  refine take_at (i := 9) 28 (v := ?_) rfl rfl (by kernel_rfl) (by kernel_rfl) (by kernel_rfl) (fun _ _ _ h => h) (Or.inl ⟨by rfl, ?_⟩) (by assumption) ?_
  case refine_2 => ((intro w hSw); (try dsimp only at hSw); go_simp; (try with_reducible rfl))
  try simp only [Act.put, List.setIfInBounds_toArray, List.set_cons_zero, List.set_cons_succ]
  refine wpAnyH_ready (rs := [4]) (by kernel_rfl) (by simp) ?_
  refine AllReadyH.cons rfl (fun K hK => ?_) AllReadyH.nil
  go_simp
  go_at_call 39
  refine (products_calls (sqs ks) hq1 _ _ _ (HSA.out.on hHeld) (HSV.out.on hHeld)).mono ?_
  rintro e x3 ⟨v3, l3, rfl, hv3, hp3, hy3⟩
  go_wp2_with fail
  refine hK.out _ _ (below_hop hHeld (Nat.le_refl _) hy3) (fun hHeld => ?_)
  clear hK K
  try simp only [Act.put, List.setIfInBounds_toArray, List.set_cons_zero, List.set_cons_succ]
  refine wpAnyH_ready (rs := [5]) (by kernel_rfl) (by simp) ?_
  refine AllReadyH.cons rfl (fun K hK => ?_) AllReadyH.nil
  go_simp
  go_at_call 38
  refine (sum_calls l3 (by rw [hp3.1]; omega) _ _ hv3).mono ?_
  rintro e x4 ⟨r4, rfl, hr4, hy4⟩
  go_wp2_with fail
  refine hK.out _ _ (below_hop hHeld (Nat.le_refl _) hy4) (fun hHeld => ?_)
  clear hK K
  try simp only [Act.put, List.setIfInBounds_toArray, List.set_cons_zero, List.set_cons_succ]
  refine wpAnyH_ready (rs := [10]) (by kernel_rfl) (by simp) ?_
  refine AllReadyH.cons rfl (fun K hK => ?_) AllReadyH.nil
  go_simp
  go_at_call 39
  refine (products_calls ks (by omega) _ _ _ (HA.out.on hHeld) (HV.out.on hHeld)).mono ?_
  rintro e x5 ⟨v5, l5, rfl, hv5, hp5, hy5⟩
  go_wp2_with fail
  refine hK.out _ _ (below_hop hHeld (Nat.le_refl _) hy5) (fun hHeld => ?_)
  clear hK K
  try simp only [Act.put, List.setIfInBounds_toArray, List.set_cons_zero, List.set_cons_succ]
  refine wpAnyH_ready (rs := [11]) (by kernel_rfl) (by simp) ?_
  refine AllReadyH.cons rfl (fun K hK => ?_) AllReadyH.nil
  go_simp
  go_at_call 38
  refine (sum_calls l5 (by rw [hp5.1]; omega) _ _ hv5).mono ?_
  rintro e x6 ⟨r6, rfl, hr6, hy6⟩
  go_wp2_with fail
  refine hK.out _ _ (below_hop hHeld (Nat.le_refl _) hy6) (fun hHeld => ?_)
  clear hK K
  try simp only [Act.put, List.setIfInBounds_toArray, List.set_cons_zero, List.set_cons_succ]
  refine take_at (i := 12) 6 (v := ?_) rfl rfl (by kernel_rfl) (by kernel_rfl) (by kernel_rfl) (fun _ _ _ h => h) (Or.inl ⟨by rfl, ?_⟩) (by assumption) ?_
  case refine_2 => ((intro w hSw); (try dsimp only at hSw); go_simp; (try with_reducible rfl))
  try simp only [Act.put, List.setIfInBounds_toArray, List.set_cons_zero, List.set_cons_succ]
  refine take_at (i := 13) 7 (v := ?_) rfl rfl (by kernel_rfl) (by kernel_rfl) (by kernel_rfl) (fun _ _ _ h => h) (Or.inl ⟨by rfl, ?_⟩) (by assumption) ?_
  case refine_2 => ((intro w hSw); (try dsimp only at hSw); go_simp; (try with_reducible rfl))
  try simp only [Act.put, List.setIfInBounds_toArray, List.set_cons_zero, List.set_cons_succ]
  refine wpAnyH_done (by kernel_rfl) ?_ _
  have HF4 : Hid (FS (psum (sqs ks)) r4) := hid (by rw [← sum_psum hp3]; exact hr4)
  have HF6 : Hid (FS (psum ks) r6) := hid (by rw [← sum_psum hp5]; exact hr6)
  have HBx := hid hHeld
  clear hHeld hr4 hr6 hp3 hp5 hv3 hv5 hy3 hy4 hy5 hy6 j0 j1
  have HN : Hid (FS (cntO ks) (floatOfInt .f64 ((ks.length : Nat) : Int))) := hid (FS.some _)
  go_wp2_with (go_at_call 58; refine (times_calls HN.out HF6.out _).mono ?_; rintro e x7 ⟨q1, rfl, hq1, hb7⟩; refine Hid.out ?_)
  refine hid ?_
  have HG1 := hid hq1
  have HB7 := hid (HBx.out.trans (hb7.mono HBx.out.size))
  clear hq1 hb7
  go_wp2_with (go_at_call 58; refine (times_calls HF1.out HF2.out _).mono ?_; rintro e x8 ⟨q2, rfl, hq2, hb8⟩; refine Hid.out ?_)
  refine hid ?_
  have HG2 := hid hq2
  have HB8 := hid (HB7.out.trans (hb8.mono HB7.out.size))
  clear hq2 hb8
  go_wp2_with (go_at_call 58; refine (times_calls HN.out HF4.out _).mono ?_; rintro e x9 ⟨q3, rfl, hq3, hb9⟩; refine Hid.out ?_)
  refine hid ?_
  have HG3 := hid hq3
  have HB9 := hid ((HB8.out.trans (fw_below .sub q1 q2 _ _)).trans (hb9.mono (HB8.out.trans (fw_below .sub q1 q2 _ _)).size))
  clear hq3 hb9
  go_wp2_with (go_at_call 58; refine (times_calls HF1.out HF1.out _).mono ?_; rintro e x10 ⟨q4, rfl, hq4, hb10⟩; refine Hid.out ?_)
  refine hid ?_
  have HG4 := hid hq4
  have HB10 := hid (HB9.out.trans (hb10.mono HB9.out.size))
  clear hq4 hb10
  go_wp2_with (go_at_call 58; refine (times_calls (o1 := rateO ks) (FS.op .quo (FS.op .sub HG1.out HG2.out _) (FS.op .sub HG3.out HG4.out _) _) HF1.out _).mono ?_; rintro e x11 ⟨q5, rfl, hq5, hb11⟩; refine Hid.out ?_)
  refine hid ?_
  have HG5 := hid hq5
  have HB11 := hid ((HB10.out.trans ((fw_below .sub q3 q4 _ _).trans (fw_below .quo _ _ _ _))).trans (hb11.mono (HB10.out.trans ((fw_below .sub q3 q4 _ _).trans (fw_below .quo _ _ _ _))).size))
  obtain ⟨n0, n1, n2, n3⟩ := (show DBox x11 (w.heap.size + 1) 0 0 from (HB11.out.block _ (by omega)).trans HD.out).facts
  clear hq5 hb11
  go_wp2
  refine bodyPost_ret (v := .agg #[.float .f64 (fb .quo (fb .sub q1 q2 x8) (fb .sub q3 q4 x10) (fw .sub q3 q4 x10)), .float .f64 (fb .quo (fb .sub r2 q5 x11) (floatOfInt .f64 ((ks.length : Nat) : Int)) (fw .sub r2 q5 x11))]) (by simp [results, Try.results44, go_sem, n0, n1]) rfl (fitted_post _ _ rfl ⟨FS.op .quo (FS.op .sub HG1.out HG2.out _) (FS.op .sub HG3.out HG4.out _) _, FS.op .quo (FS.op .sub HF2.out HG5.out _) HN.out _⟩ ⟨fit_lt _ _ _ _, fit_lt _ _ _ _⟩ ?_)
  exact ((HB0.out.trans (HB11.out.mono HB0.out.size)).trans ((fw_below .sub r2 q5 _ _).trans (fw_below .quo _ _ _ _))).setCell (p := ⟨w.heap.size + 1, 0, none⟩) (Nat.le_succ _) _ |>.setCell (p := ⟨w.heap.size + 1, 1, none⟩) (Nat.le_succ _) _

theorem DBox.alloc {W : World} {b x y : Nat} (h : DBox W b x y) (c : Obj) : DBox (W.alloc c) b x y := by
  have hb : b < W.heap.size := (Array.getElem?_eq_some_iff.1 h).1
  exact (heap_alloc_old _ _ hb).trans h

theorem DBox.on {W W' : World} {b x y : Nat} (h : DBox W b x y) (hb : Below W.heap.size W W') : DBox W' b x y :=
  (hb.block _ (Array.getElem?_eq_some_iff.1 h).1).trans h

set_option maxRecDepth 20000 in
set_option maxHeartbeats 4000000 in
theorem fit_impl_no (p q : Option Addr) (n m c d : Nat) (hno : 100 < n ∨ n ≤ 100 ∧ n ≠ m) (w : World) :
    Calls Try.prog 17 #[.slice p n c, .slice q m d] w (FitPost none w) := by
  have CR := hid (fun W => read_far p q n m c d hno W)
  obtain ⟨w1, hw1⟩ : ∃ W, W = w.alloc (.cells #[.float .f64 0, .float .f64 0] 34) := ⟨_, rfl⟩
  have HW1 := hid hw1
  have HB1 : Hid (Below w.heap.size w w1) := hid (by rw [hw1]; exact (Below.refl _ _).alloc (Nat.le_refl _) _)
  have HD1 : Hid (DBox w1 w.heap.size 0 0) := hid (by rw [hw1]; exact heap_alloc_new _ _)
  clear hw1
  go_enter Try.func17, Try.ntmps17
  go_wp2_with (go_at_call 43; rw [← HW1.out]; refine (CR.out _).mono ?_; rintro e w2 ⟨rfl, hb2⟩; refine Hid.out ?_)
  refine hid ?_
  have HB2 := hid (HB1.out.trans (hb2.mono HB1.out.size))
  have HK := hid (fun c => (DBox.alloc (HD1.out.on hb2) c).facts)
  have k0 := fun c => (HK.out c).1
  have k1 := fun c => (HK.out c).2.1
  have k2 := fun c => (HK.out c).2.2.1
  have k3 := fun c => (HK.out c).2.2.2
  clear hb2
  go_wp2
  refine bodyPost_ret (v := .tuple #[.agg #[.float .f64 0, .float .f64 0], .bool false]) (by simp [results, Try.results17, go_sem, k0, k1]) rfl (fit_post 0 0 false rfl ⟨rfl, rfl, rfl⟩ ?_)
  repeat (first | exact HB2.out | (refine Below.setCell ?_ (by first | (simp; done) | (simp; omega)) _) | (refine Below.alloc ?_ (by first | exact HB2.out.size | (simp; done) | (simp; omega)) _))

set_option maxRecDepth 20000 in
set_option maxHeartbeats 8000000 in
theorem fit_impl (zs : List (Int × Nat)) (hn : zs.length ≤ 100) (hs : ∀ z ∈ zs, z.2 < 18446744073709551616) (a b : Value) (w : World) (ha : RowIn w a (zs.map Prod.fst)) (hb : RowFl w b (zs.map Prod.snd)) :
    Calls Try.prog 17 #[a, b] w (FitPost (fitO zs) w) := by
  have HFa := hid ha
  have HFb := hid hb
  obtain ⟨p, c, rfl, _⟩ := row_tk ha
  obtain ⟨q, d, rfl, _⟩ := row_of hb
  clear ha hb
  have HQT : Hid (fitO zs = if okT zs = true ∧ 2 ≤ (rds zs).length ∧ drO (rateO (rds zs)) (offO (rds zs)) = true then some (rateO (rds zs), offO (rds zs)) else none) := hid rfl
  have hk := Nat.le_trans (rds_few zs) hn
  have CR := hid (fun W ha hb => read_calls zs hn hs (.slice p zs.length c) (.slice q zs.length d) W ha hb)
  unfold ReadPostF at CR
  obtain ⟨w1, hw1⟩ : ∃ W, W = w.alloc (.cells #[.float .f64 0, .float .f64 0] 34) := ⟨_, rfl⟩
  have HW1 := hid hw1
  have HB1 : Hid (Below w.heap.size w w1) := hid (by rw [hw1]; exact (Below.refl _ _).alloc (Nat.le_refl _) _)
  have HD1 : Hid (DBox w1 w.heap.size 0 0) := hid (by rw [hw1]; exact heap_alloc_new _ _)
  clear hw1
  cases hok : okT zs with
  | false =>
    rw [hok] at CR HQT
    have HFIT : Hid (fitO zs = none) := hid (by rw [HQT.out, if_neg (fun h => by cases h.1)])
    go_enter Try.func17, Try.ntmps17
    go_wp2_with (go_at_call 43; rw [← HW1.out]; refine (CR.out _ (HFa.out.on HB1.out) (HFb.out.on HB1.out)).mono ?_; rintro e w2 ⟨va, vb, rfl, _, hr, hb2⟩; obtain ⟨rfl, rfl⟩ := hr rfl; clear hr; refine Hid.out ?_)
    refine hid ?_
    have HB2 := hid (HB1.out.trans (hb2.mono HB1.out.size))
    have HK := hid (fun c => (DBox.alloc (HD1.out.on hb2) c).facts)
    have k0 := fun c => (HK.out c).1
    have k1 := fun c => (HK.out c).2.1
    have k2 := fun c => (HK.out c).2.2.1
    have k3 := fun c => (HK.out c).2.2.2
    clear hb2
    go_wp2
    refine bodyPost_ret (v := .tuple #[.agg #[.float .f64 0, .float .f64 0], .bool false]) (by simp [results, Try.results17, go_sem, k0, k1]) rfl (fit_post 0 0 false rfl (by rw [HFIT.out]; exact ⟨rfl, rfl, rfl⟩) ?_)
    repeat (first | exact HB2.out | (refine Below.setCell ?_ (by first | (simp; done) | (simp; omega)) _) | (refine Below.alloc ?_ (by first | exact HB2.out.size | (simp; done) | (simp; omega)) _))
  | true =>
    rw [hok] at CR HQT
    generalize rds zs = ks at *
    by_cases h2 : ks.length < 2
    · have HFIT : Hid (fitO zs = none) := hid (by rw [HQT.out, if_neg (fun h => by omega)])
      have h2i : (ks.length : Int) < 2 := by omega
      go_enter Try.func17, Try.ntmps17
      go_wp2_with (go_at_call 43; rw [← HW1.out]; refine (CR.out _ (HFa.out.on HB1.out) (HFb.out.on HB1.out)).mono ?_; rintro e w2 ⟨va, vb, rfl, hr, _, hb2⟩; obtain ⟨hra, hrb, p2, c2, rfl⟩ := hr rfl; have HRa := hid hra; have HRb := hid hrb; obtain ⟨q2, d2, rfl, _⟩ := row_of hrb; clear hr hra hrb; refine Hid.out ?_)
      refine hid ?_
      have HB2 := hid (HB1.out.trans (hb2.mono HB1.out.size))
      have HD2 := hid (HD1.out.on hb2)
      have HK := hid (fun c => (DBox.alloc HD2.out c).facts)
      have k0 := fun c => (HK.out c).1
      have k1 := fun c => (HK.out c).2.1
      have k2 := fun c => (HK.out c).2.2.1
      have k3 := fun c => (HK.out c).2.2.2
      clear hb2
      go_wp2
      refine bodyPost_ret (v := .tuple #[.agg #[.float .f64 0, .float .f64 0], .bool false]) (by simp [results, Try.results17, go_sem, k0, k1]) rfl (fit_post 0 0 false rfl (by rw [HFIT.out]; exact ⟨rfl, rfl, rfl⟩) ?_)
      repeat (first | exact HB2.out | (refine Below.setCell ?_ (by first | (simp; done) | (simp; omega)) _) | (refine Below.alloc ?_ (by first | exact HB2.out.size | (simp; done) | (simp; omega)) _))
    · have h2i : ¬ (ks.length : Int) < 2 := by omega
      go_enter Try.func17, Try.ntmps17
      go_wp2_with (go_at_call 43; rw [← HW1.out]; refine (CR.out _ (HFa.out.on HB1.out) (HFb.out.on HB1.out)).mono ?_; rintro e w2 ⟨va, vb, rfl, hr, _, hb2⟩; obtain ⟨hra, hrb, p2, c2, rfl⟩ := hr rfl; have HRa := hid hra; have HRb := hid hrb; obtain ⟨q2, d2, rfl, _⟩ := row_of hrb; clear hr hra hrb; refine Hid.out ?_)
      refine hid ?_
      have HB2 := hid (HB1.out.trans (hb2.mono HB1.out.size))
      have HD2 := hid (HD1.out.on hb2)
      have HK := hid (fun c => (DBox.alloc HD2.out c).facts)
      have k0 := fun c => (HK.out c).1
      have k1 := fun c => (HK.out c).2.1
      have k2 := fun c => (HK.out c).2.2.1
      have k3 := fun c => (HK.out c).2.2.2
      clear hb2
      obtain ⟨w3, hw3⟩ : ∃ W, W = w2.alloc (.cells #[.slice p2 ks.length c2, .slice q2 ks.length d2] 72) := ⟨_, rfl⟩
      have HW3 := hid hw3
      have HB3 : Hid (Below w.heap.size w w3) := hid (by rw [hw3]; exact HB2.out.alloc HB2.out.size _)
      have HX3 : Hid (RBox w3 w2.heap.size (.slice p2 ks.length c2) (.slice q2 ks.length d2)) := hid (by rw [hw3]; exact heap_alloc_new _ _)
      have HD3 : Hid (DBox w3 w.heap.size 0 0) := hid (by rw [hw3]; exact HD2.out.alloc _)
      have HA3 : Hid (RowFl w3 (.slice p2 ks.length c2) (ks.map Prod.fst)) := hid (by rw [hw3]; exact HRa.out.on ((Below.refl _ _).alloc (Nat.le_refl _) _))
      have HV3 : Hid (RowFl w3 (.slice q2 ks.length d2) (ks.map Prod.snd)) := hid (by rw [hw3]; exact HRb.out.on ((Below.refl _ _).alloc (Nat.le_refl _) _))
      clear hw3
      go_wp2_with (go_at_call 44; rw [← HW3.out]; refine (fitted_calls ks hk _ _ _ HA3.out HV3.out).mono ?_; rintro e w4 ⟨r, s, rfl, hfs, hlt, hb4⟩; refine Hid.out ?_)
      refine hid ?_
      clear k0 k1 k2 k3
      have HFS := hid hfs
      have HB4 := hid (HB3.out.trans (hb4.mono HB3.out.size))
      have HD4 := hid (HD3.out.on hb4)
      have CQ := hid (fun W => right_impl r s hlt.1 hlt.2 W)
      have HDR : Hid (drB r s = drO (rateO ks) (offO ks)) := hid (drO_of hfs.1 hfs.2)
      clear hfs hlt hb4
      obtain ⟨w5, hw5⟩ : ∃ W, W = w4.alloc (.cells #[.float .f64 r, .float .f64 s] 34) := ⟨_, rfl⟩
      have HW5 := hid hw5
      have HB5 : Hid (Below w.heap.size w w5) := hid (by rw [hw5]; exact HB4.out.alloc HB4.out.size _)
      have HD5 : Hid (DBox w5 w.heap.size 0 0) := hid (by rw [hw5]; exact HD4.out.alloc _)
      have HE5 : Hid (DBox w5 w4.heap.size r s) := hid (by rw [hw5]; exact heap_alloc_new _ _)
      clear hw5
      cases hd : drO (rateO ks) (offO ks) with
      | false =>
        rw [hd] at HDR
        rw [HDR.out] at CQ
        have HFIT : Hid (fitO zs = none) := hid (by rw [HQT.out, hd, if_neg (fun h => by cases h.2.2)])
        obtain ⟨j0, j1, _, _⟩ := HE5.out.facts
        go_wp2_with (go_at_call 45; rw [← HW5.out]; refine (CQ.out _).mono ?_; rintro e w6 ⟨rfl, hb6⟩; refine Hid.out ?_)
        refine hid ?_
        clear j0 j1
        have HB6 := hid (HB5.out.trans (hb6.mono HB5.out.size))
        obtain ⟨k0, k1, k2, k3⟩ := (HD5.out.on hb6).facts
        obtain ⟨m0, m1, m2, m3⟩ := (HE5.out.on hb6).facts
        clear hb6
        go_wp2
        refine bodyPost_ret (v := .tuple #[.agg #[.float .f64 0, .float .f64 0], .bool false]) (by simp [results, Try.results17, go_sem, k0, k1]) rfl (fit_post 0 0 false rfl (by rw [HFIT.out]; exact ⟨rfl, rfl, rfl⟩) ?_)
        repeat (first | exact HB6.out | (refine Below.setCell ?_ (by first | (simp; done) | (simp; omega)) _))
      | true =>
        rw [hd] at HDR
        rw [HDR.out] at CQ
        have HFIT : Hid (fitO zs = some (rateO ks, offO ks)) := hid (by rw [HQT.out, hd, if_pos (by refine ⟨?_, ?_, ?_⟩ <;> first | trivial | omega)])
        obtain ⟨j0, j1, _, _⟩ := HE5.out.facts
        go_wp2_with (go_at_call 45; rw [← HW5.out]; refine (CQ.out _).mono ?_; rintro e w6 ⟨rfl, hb6⟩; refine Hid.out ?_)
        refine hid ?_
        clear j0 j1
        have HB6 := hid (HB5.out.trans (hb6.mono HB5.out.size))
        obtain ⟨k0, k1, k2, k3⟩ := (HD5.out.on hb6).facts
        obtain ⟨m0, m1, m2, m3⟩ := (HE5.out.on hb6).facts
        clear hb6
        go_wp2
        refine bodyPost_ret (v := .tuple #[.agg #[.float .f64 r, .float .f64 s], .bool true]) (by simp [results, Try.results17, go_sem, k0, k1]) rfl (fit_post r s true rfl (by rw [HFIT.out]; exact ⟨rfl, HFS.out.1, HFS.out.2⟩) ?_)
        repeat (first | exact HB6.out | (refine Below.setCell ?_ (by first | (simp; done) | (simp; omega)) _))
end Go.Proofs.Ythpnlhbfginkjaa
