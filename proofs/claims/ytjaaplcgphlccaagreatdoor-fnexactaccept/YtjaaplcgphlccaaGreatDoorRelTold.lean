/- What a book of a relying side tells: its three sets, each rising. -/
import Derived.Test.YtjaaplcgphlccaaGreatDoorToldSet
import Derived.Test.YtjaaplcgphlccaaGreatDoorRelBoth
import Derived.Test.YtjaaplcgphlccaaGreatDoorTwoBox
import Derived.Test.YtjaaplcgphlccaaGreatDoorPolSpec
namespace Go.Proofs.YtjaaplcgphlccaaGreatDoor
open Go.RowKit Go.WideMaps Go.Maps
open Go.Lib (hid)

theorem told_three {W : World} {b : Nat} {x0 x1 x2 : Value} {t : TypeId} (h : W.heap[b]? = some (.cells #[x0, x1, x2] t)) :
    W.cell? ⟨b, 0, none⟩ = some x0 ∧ W.cell? ⟨b, 1, none⟩ = some x1 ∧ W.cell? ⟨b, 2, none⟩ = some x2 :=
  ⟨(cell_of_row W b 0 _ _ _ h).trans rfl, (cell_of_row W b 1 _ _ _ h).trans rfl, (cell_of_row W b 2 _ _ _ h).trans rfl⟩
theorem told_thaw {W : World} {b : Nat} {V : Array Value} {t : TypeId} (h : W.heap[b]? = some (.cells V t)) (o : Nat) : W.frozen? ⟨b, o, none⟩ = false := by simp [World.frozen?, h]
theorem told_below {B b : Nat} {w W : World} (h : Below B w W) (hb : B ≤ b) (x0 x1 x2 : Value) : Below B w (((W.setCell ⟨b, 0, none⟩ x0).setCell ⟨b, 1, none⟩ x1).setCell ⟨b, 2, none⟩ x2) :=
  ((h.setCell (p := ⟨b, 0, none⟩) hb _).setCell (p := ⟨b, 1, none⟩) hb _).setCell (p := ⟨b, 2, none⟩) hb _

theorem told_slice {w : World} {base size n : Nat} {e : TypeId} {v : Value} {xs : List Value} (h : w.ownsRow base e size v n xs) : ∃ p c, v = .slice p n c := by
  rcases h.2 with ⟨hv, hz⟩ | ⟨g, cap, cur, e1, _⟩
  · exact ⟨none, 0, by rw [hv, hz]⟩
  · exact ⟨_, _, e1⟩

theorem own_at {w w' : World} {b base size n : Nat} {e : TypeId} {v : Value} {xs : List Value} (h : w.ownsRow base e size v n xs) (hb : b < base) (hs : Step b w w') : w'.ownsRow base e size v n xs := by
  refine ⟨h.1, ?_⟩
  rcases h.2 with hn | ⟨g, cap, cur, e1, hbg, hg, rest⟩
  · exact Or.inl hn
  · refine Or.inr ⟨g, cap, cur, e1, hbg, ?_, rest⟩
    rw [hs.block g (Array.getElem?_eq_some_iff.1 hg).1 (by omega)]
    exact hg

set_option maxRecDepth 20000 in
set_option maxHeartbeats 4000000 in
theorem relying_calls {H : Type} (D1 D2 D3 : DataW H) (R1 R2 R3 : Value → Option (DataW H × List MemPlace)) (s1 s2 s3 n1 n2 n3 : Nat) (w : World)
    (o1 : w.ownsMap Tryz.prog 9 R1 s1 n1 D1) (o2 : w.ownsMap Tryz.prog 9 R2 s2 n2 D2) (o3 : w.ownsMap Tryz.prog 9 R3 s3 n3 D3)
    (z1 : Maps.size D1 ≤ 1048576) (z2 : Maps.size D2 ≤ 1048576) (z3 : Maps.size D3 ≤ 1048576) (t1 t2 t3 : List (List UInt8))
    (p1 : t1.Pairwise (fun a b => a < b)) (p2 : t2.Pairwise (fun a b => a < b)) (p3 : t3.Pairwise (fun a b => a < b))
    (e1 : ∀ x, has D1 (.string x) = true ↔ x ∈ t1) (e2 : ∀ x, has D2 (.string x) = true ↔ x ∈ t2) (e3 : ∀ x, has D3 (.string x) = true ↔ x ∈ t3) :
    Calls Tryz.prog 29 #[.agg #[.map (some s1), .map (some s2), .map (some s3)]] w fun e w' => ∃ v1 v2 v3, e = .returned (.agg #[v1, v2, v3]) ∧ Below w.heap.size w w' ∧
      w'.ownsRow w.heap.size 9 1 v1 t1.length (strs t1) ∧ w'.ownsRow w.heap.size 9 1 v2 t2.length (strs t2) ∧ w'.ownsRow w.heap.size 9 1 v3 t3.length (strs t3) ∧ (∀ j k, v1.ownBlock = some j → v2.ownBlock = some k → j < k) ∧ (∀ j k, v1.ownBlock = some j → v3.ownBlock = some k → j < k) ∧ (∀ j k, v2.ownBlock = some j → v3.ownBlock = some k → j < k) := by
  have C1 := hid (fun W (h : Below w.heap.size w W) => told_calls D1 R1 s1 n1 W (o1.kept (grown_below (row := none) h) (by simp)) z1 t1 p1 e1)
  have C2 := hid (fun W (h : Below w.heap.size w W) => told_calls D2 R2 s2 n2 W (o2.kept (grown_below (row := none) h) (by simp)) z2 t2 p2 e2)
  have C3 := hid (fun W (h : Below w.heap.size w W) => told_calls D3 R3 s3 n3 W (o3.kept (grown_below (row := none) h) (by simp)) z3 t3 p3 e3)
  clear o1 o2 o3 z1 z2 z3 p1 p2 p3 e1 e2 e3
  obtain ⟨W0, hW0⟩ : ∃ W0, W0 = (w.alloc (.cells #[.map (some s1), .map (some s2), .map (some s3)] 51)).alloc (.cells #[.slice none 0 0, .slice none 0 0, .slice none 0 0] 26) := ⟨_, rfl⟩
  have HB0 : Hid (Below w.heap.size w W0) := hid (by rw [hW0]; exact ((Below.refl _ _).alloc (Nat.le_refl _) _).alloc (by simp) _)
  have HV0 : Hid (W0.heap[w.heap.size]? = some (.cells #[.map (some s1), .map (some s2), .map (some s3)] 51)) := hid (by rw [hW0]; exact heap_two_old _ _)
  have HZ0 : Hid (W0.heap[w.heap.size + 1]? = some (.cells #[.slice none 0 0, .slice none 0 0, .slice none 0 0] 26)) := hid (by rw [hW0]; exact heap_two_new _ _)
  have hz0 : w.heap.size + 1 < W0.heap.size := by rw [hW0]; simp
  have HW0 := hid hW0
  clear hW0
  have j0 : ∀ W : World, Below (w.heap.size + 1) W0 W → W.cell? ⟨w.heap.size, 0, none⟩ = some (.map (some s1)) := fun W hW => (hW.cell (p := ⟨w.heap.size, 0, none⟩) (by show w.heap.size < w.heap.size + 1; omega)).trans ((cell_of_row _ _ 0 _ _ _ HV0.out).trans rfl)
  have j1 : ∀ W : World, Below (w.heap.size + 1) W0 W → W.cell? ⟨w.heap.size, 1, none⟩ = some (.map (some s2)) := fun W hW => (hW.cell (p := ⟨w.heap.size, 1, none⟩) (by show w.heap.size < w.heap.size + 1; omega)).trans ((cell_of_row _ _ 1 _ _ _ HV0.out).trans rfl)
  have j2 : ∀ W : World, Below (w.heap.size + 1) W0 W → W.cell? ⟨w.heap.size, 2, none⟩ = some (.map (some s3)) := fun W hW => (hW.cell (p := ⟨w.heap.size, 2, none⟩) (by show w.heap.size < w.heap.size + 1; omega)).trans ((cell_of_row _ _ 2 _ _ _ HV0.out).trans rfl)
  go_enter Tryz.func29, Tryz.ntmps29
  go_wp2
  rw [← HW0.out]
  refine wp_region_held_drew (S := fun w' => Below (w.heap.size + 1) W0 w') (by kernel_rfl) (Below.drew (Below.refl _ _)) (fun hHeld => ?_)
  refine take_dst (i := 0) 3 (v := ?_) rfl rfl (by kernel_rfl) (by kernel_rfl) (by kernel_rfl) (fun _ _ _ h => h) (Or.inl ⟨by rfl, ?_⟩) (by assumption) ?_
  case refine_2 => ((intro w hSw); (try dsimp only at hSw); go_simp; (try with_reducible rfl))
  try simp only [Act.put, List.setIfInBounds_toArray, List.set_cons_zero, List.set_cons_succ]
  refine take_dst (i := 1) 4 (v := ?_) rfl rfl (by kernel_rfl) (by kernel_rfl) (by kernel_rfl) (fun _ _ _ h => h) (Or.inl ⟨by rfl, ?_⟩) (by assumption) ?_
  case refine_2 => ((intro w hSw); (try dsimp only at hSw); go_simp; (try with_reducible rfl))
  try simp only [Act.put, List.setIfInBounds_toArray, List.set_cons_zero, List.set_cons_succ]
  refine take_dst (i := 3) 6 (v := ?_) rfl rfl (by kernel_rfl) (by kernel_rfl) (by kernel_rfl) (fun _ _ _ h => h) (Or.inl ⟨by rfl, ?_⟩) (by assumption) ?_
  case refine_2 => ((intro w hSw); (try dsimp only at hSw); go_simp; (try with_reducible rfl))
  try simp only [Act.put, List.setIfInBounds_toArray, List.set_cons_zero, List.set_cons_succ]
  refine take_dst (i := 4) 7 (v := ?_) rfl rfl (by kernel_rfl) (by kernel_rfl) (by kernel_rfl) (fun _ _ _ h => h) (Or.inl ⟨by rfl, ?_⟩) (by assumption) ?_
  case refine_2 => ((intro w hSw); (try dsimp only at hSw); go_simp; (try with_reducible rfl))
  try simp only [Act.put, List.setIfInBounds_toArray, List.set_cons_zero, List.set_cons_succ]
  refine take_dst (i := 6) 9 (v := ?_) rfl rfl (by kernel_rfl) (by kernel_rfl) (by kernel_rfl) (fun _ _ _ h => h) (Or.inl ⟨by rfl, ?_⟩) (by assumption) ?_
  case refine_2 => ((intro w hSw); (try dsimp only at hSw); go_simp; (try with_reducible rfl))
  try simp only [Act.put, List.setIfInBounds_toArray, List.set_cons_zero, List.set_cons_succ]
  refine take_dst (i := 7) 10 (v := ?_) rfl rfl (by kernel_rfl) (by kernel_rfl) (by kernel_rfl) (fun _ _ _ h => h) (Or.inl ⟨by rfl, ?_⟩) (by assumption) ?_
  case refine_2 => ((intro w hSw); (try dsimp only at hSw); go_simp; (try with_reducible rfl))
  try simp only [Act.put, List.setIfInBounds_toArray, List.set_cons_zero, List.set_cons_succ]
  refine wpAnyH_ready (rs := [2]) (by kernel_rfl) (by simp) ?_
  refine AllReadyH.cons rfl (fun K hK => ?_) AllReadyH.nil
  go_simp
  go_at_call 56
  refine (C1.out _ (HB0.out.trans ((Below.drew (Below.refl _ _)).mono HB0.out.size))).mono ?_
  rintro e x1 ⟨v1, rfl, hy1, hr1⟩
  obtain ⟨q1, c1, rfl⟩ := told_slice hr1
  go_wp2_with fail
  have hx1 := pol_step (Below.refl W0.heap.size W0) (Nat.le_refl _) hy1
  have K1 := hid (HB0.out.trans (hx1.mono HB0.out.size))
  have hS1 : Below (w.heap.size + 1) W0 x1 := hx1.mono (by omega)
  refine hK.out _ _ hS1 (fun hHeld => ?_)
  clear hK K
  try simp only [Act.put, List.setIfInBounds_toArray, List.set_cons_zero, List.set_cons_succ]
  refine wpAnyH_ready (rs := [5]) (by kernel_rfl) (by simp) ?_
  refine AllReadyH.cons rfl (fun K hK => ?_) AllReadyH.nil
  go_simp
  go_at_call 56
  refine (C2.out _ K1.out).mono ?_
  rintro e x2 ⟨v2, rfl, hy2, hr2⟩
  obtain ⟨q2, c2, rfl⟩ := told_slice hr2
  go_wp2_with fail
  have hx2 := hx1.trans (hy2.mono hx1.size)
  have K2 := hid (HB0.out.trans (hx2.mono HB0.out.size))
  have hS2 : Below (w.heap.size + 1) W0 x2 := hx2.mono (by omega)
  refine hK.out _ _ hS2 (fun hHeld => ?_)
  clear hK K
  try simp only [Act.put, List.setIfInBounds_toArray, List.set_cons_zero, List.set_cons_succ]
  refine wpAnyH_ready (rs := [8]) (by kernel_rfl) (by simp) ?_
  refine AllReadyH.cons rfl (fun K hK => ?_) AllReadyH.nil
  go_simp
  go_at_call 56
  refine (C3.out _ K2.out).mono ?_
  rintro e x3 ⟨v3, rfl, hy3, hr3⟩
  obtain ⟨q3, c3, rfl⟩ := told_slice hr3
  go_wp2_with fail
  have hx3 := hx2.trans (hy3.mono hx2.size)
  have K3 := hid (HB0.out.trans (hx3.mono HB0.out.size))
  have hS3 : Below (w.heap.size + 1) W0 x3 := hx3.mono (by omega)
  refine hK.out _ _ hS3 (fun hHeld => ?_)
  clear hK K
  try simp only [Act.put, List.setIfInBounds_toArray, List.set_cons_zero, List.set_cons_succ]
  refine take_dst (i := 9) 12 (v := ?_) rfl rfl (by kernel_rfl) (by kernel_rfl) (by kernel_rfl) (fun _ _ _ h => h) (Or.inl ⟨by rfl, ?_⟩) (by assumption) ?_
  case refine_2 => ((intro w hSw); (try dsimp only at hSw); go_simp; (try with_reducible rfl))
  try simp only [Act.put, List.setIfInBounds_toArray, List.set_cons_zero, List.set_cons_succ]
  refine wpAnyH_ready (rs := [10]) (by kernel_rfl) (by simp) ?_
  refine AllReadyH.cons rfl (fun K hK => ?_) AllReadyH.nil
  have HZ3 := hid ((hx3.block (w.heap.size + 1) hz0).trans HZ0.out)
  obtain ⟨z0, z1, z2⟩ := told_three HZ3.out
  have f0 := told_thaw HZ3.out 0
  have f1 := told_thaw HZ3.out 1
  have f2 := told_thaw HZ3.out 2
  go_simp
  refine hK.out _ _ (told_below hHeld (Nat.le_refl _) _ _ _) (fun hHeld => ?_)
  clear hK K
  try simp only [Act.put, List.setIfInBounds_toArray, List.set_cons_zero, List.set_cons_succ]
  refine wpAnyH_done (by kernel_rfl) ?_ _
  have hq : w.heap.size + 1 < W0.heap.size := hz0
  have g1 := hy1.size
  have HLT := hid (show (∀ j k, (Value.slice q1 t1.length c1).ownBlock = some j → (Value.slice q2 t2.length c2).ownBlock = some k → j < k) ∧ (∀ j k, (Value.slice q1 t1.length c1).ownBlock = some j → (Value.slice q3 t3.length c3).ownBlock = some k → j < k) ∧ (∀ j k, (Value.slice q2 t2.length c2).ownBlock = some j → (Value.slice q3 t3.length c3).ownBlock = some k → j < k) from ⟨fun j k hj hk => by have a := hr1.lt j hj; have b := hr2.lt k hk; omega, fun j k hj hk => by have a := hr1.lt j hj; have b := hr3.lt k hk; have := hy2.size; omega, fun j k hj hk => by have a := hr2.lt j hj; have b := hr3.lt k hk; omega⟩)
  have r1 := own_below (own_below hr1 hy2) hy3
  have r2 := own_below hr2 hy3
  have HR1 := hid r1
  have HR2 := hid r2
  have HR3 := hid hr3
  have hzx1 : w.heap.size + 1 < x1.heap.size := Nat.lt_of_lt_of_le hz0 hx1.size
  have hzx2 : w.heap.size + 1 < x2.heap.size := Nat.lt_of_lt_of_le hz0 hx2.size
  clear r1 r2 hr1 hr2 hr3 hy1 hy2 hy3 hHeld hx1 hx2 hx3 hS1 hS2 hS3 g1
  have HST : Hid (∀ a b c : Value, Step (w.heap.size + 1) x3 (((x3.setCell ⟨w.heap.size + 1, 0, none⟩ a).setCell ⟨w.heap.size + 1, 1, none⟩ b).setCell ⟨w.heap.size + 1, 2, none⟩ c)) := hid (fun a b c => (((Step.refl _ _).setCell 0 _).setCell 1 _).setCell 2 _)
  go_wp2
  exact bodyPost_ret (v := .agg #[.slice q1 t1.length c1, .slice q2 t2.length c2, .slice q3 t3.length c3]) (by simp [results, Tryz.results29, go_sem, z0, z1, z2]) rfl ⟨_, _, _, rfl, told_below K3.out (Nat.le_succ _) _ _ _,
    own_base (own_at HR1.out (by simpa using hq) (HST.out _ _ _)) (by simpa using HB0.out.size),
    own_base (own_at HR2.out hzx1 (HST.out _ _ _)) K1.out.size,
    own_base (own_at HR3.out hzx2 (HST.out _ _ _)) K2.out.size, HLT.out⟩
end Go.Proofs.YtjaaplcgphlccaaGreatDoor
