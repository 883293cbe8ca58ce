/- Extend, the program's: the register at each of the eight places. -/
import Derived.Test.YtgmgffbfpbkfmaaGreatDoorShownImpl
import Derived.Test.YtgmgffbfpbkfmaaGreatDoorExtSpec
import Derived.Test.YtgmgffbfpbkfmaaGreatDoorMakeImpl
import Derived.Deep.RegionHeld3
namespace Go.Proofs.YtgmgffbfpbkfmaaGreatDoor
open Go.RowKit
open Go.Lib (hid)

theorem isreg_yes (n : Int) (h : 0 ≤ n ∧ n ≤ 7) (w : World) :
    Calls Tryz.prog 168 #[.int .i64 n] w fun e w' => e = .returned (.bool true) ∧ w' = w := by
  obtain ⟨h0, h1⟩ := h
  have h2 : n < 8 := by omega
  go_enter Tryz.func168, Tryz.ntmps168
  go_wp2
  go_ret
  exact ⟨by simp, rfl⟩

theorem isreg_no (n : Int) (h : ¬ (0 ≤ n ∧ n ≤ 7)) (w : World) :
    Calls Tryz.prog 168 #[.int .i64 n] w fun e w' => e = .returned (.bool false) ∧ w' = w := by
  by_cases h0 : 0 ≤ n
  · have h1 : 8 ≤ n := by omega
    clear h
    go_enter Tryz.func168, Tryz.ntmps168
    go_wp2
    go_ret
    exact ⟨by simp [h1], rfl⟩
  · clear h
    go_enter Tryz.func168, Tryz.ntmps168
    go_wp2
    go_ret
    exact ⟨rfl, rfl⟩

theorem extd_out (R : Array Value) (hR : R = zeroR ∨ ∃ y0 y1 y2 y3 y4 y5 y6 y7 : ByteArray, R = #[.string y0, .string y1, .string y2, .string y3, .string y4, .string y5, .string y6, .string y7]) (at' : Int) (h : ¬ (0 ≤ at' ∧ at' ≤ 7)) (m : ByteArray) (w : World) :
    Calls Tryz.prog 119 #[.agg R, .agg #[.int .i64 at', .string m]] w fun e w' => e = .returned (.tuple #[.agg zeroR, .bool false]) ∧ Below w.heap.size w w' := by
  obtain ⟨y0, y1, y2, y3, y4, y5, y6, y7, rfl⟩ : ∃ y0 y1 y2 y3 y4 y5 y6 y7 : ByteArray, R = #[.string y0, .string y1, .string y2, .string y3, .string y4, .string y5, .string y6, .string y7] := by
    rcases hR with rfl | h
    · exact ⟨_, _, _, _, _, _, _, _, rfl⟩
    · exact h
  by_cases h0 : at' < 0
  · clear h hR
    go_enter Tryz.func119, Tryz.ntmps119
    go_wp2_with (go_at_call 168; refine (isreg_no _ (by omega) _).mono ?_; rintro e wq ⟨rfl, eq1⟩; rw [eq1]; clear eq1 wq)
    exact bodyPost_ret (v := .tuple #[.agg zeroR, .bool false]) (by simp [results, Tryz.results119, go_sem, zeroR]) rfl ⟨rfl, (((Below.refl _ _).alloc (Nat.le_refl _) _).alloc (by simp) _).alloc (by simp; omega) _⟩
  · have h1 : 8 ≤ at' := by omega
    clear h hR
    go_enter Tryz.func119, Tryz.ntmps119
    go_wp2_with (go_at_call 168; refine (isreg_no _ (by omega) _).mono ?_; rintro e wq ⟨rfl, eq1⟩; rw [eq1]; clear eq1 wq)
    exact bodyPost_ret (v := .tuple #[.agg zeroR, .bool false]) (by simp [results, Tryz.results119, go_sem, zeroR]) rfl ⟨rfl, (((Below.refl _ _).alloc (Nat.le_refl _) _).alloc (by simp) _).alloc (by simp; omega) _⟩

theorem heap_three_first {w : World} (x y z : Obj) : (((w.alloc x).alloc y).alloc z).heap[w.heap.size]? = some x := by
  have h := heap_alloc_new w x
  rw [(((Below.refl (w.alloc x).heap.size (w.alloc x)).alloc (Nat.le_refl _) y).alloc (by simp) z).block _ (by simp)]
  exact h

theorem heap_three_mid {w : World} (x y z : Obj) : (((w.alloc x).alloc y).alloc z).heap[w.heap.size + 1]? = some y := by
  have h := heap_alloc_new (w.alloc x) y
  have h2 : ((w.alloc x).alloc y).heap[w.heap.size + 1]? = some y := by simpa using h
  rw [((Below.refl ((w.alloc x).alloc y).heap.size ((w.alloc x).alloc y)).alloc (Nat.le_refl _) z).block _ (by simp)]
  exact h2

theorem heap_three_last {w : World} (x y z : Obj) : (((w.alloc x).alloc y).alloc z).heap[w.heap.size + 2]? = some z := by
  have h := heap_alloc_new ((w.alloc x).alloc y) z
  simpa using h

theorem below_eight {B b : Nat} {w0 w : World} (h : Below B w0 w) (hb : B ≤ b) (v0 v1 v2 v3 v4 v5 v6 v7 : Value) :
    Below B w0 ((((((((w.setCell ⟨b, 0, none⟩ v0).setCell ⟨b, 1, none⟩ v1).setCell ⟨b, 2, none⟩ v2).setCell ⟨b, 3, none⟩ v3).setCell ⟨b, 4, none⟩ v4).setCell ⟨b, 5, none⟩ v5).setCell ⟨b, 6, none⟩ v6).setCell ⟨b, 7, none⟩ v7) :=
  (((((((h.setCell (p := ⟨b, 0, none⟩) hb _).setCell (p := ⟨b, 1, none⟩) hb _).setCell (p := ⟨b, 2, none⟩) hb _).setCell (p := ⟨b, 3, none⟩) hb _).setCell (p := ⟨b, 4, none⟩) hb _).setCell (p := ⟨b, 5, none⟩) hb _).setCell (p := ⟨b, 6, none⟩) hb _).setCell (p := ⟨b, 7, none⟩) hb _

set_option maxRecDepth 20000 in
set_option maxHeartbeats 2000000 in
theorem extd_0 (y0 y1 y2 y3 y4 y5 y6 y7 m y : ByteArray) (b : Bool) (w : World) (hT : Tab w) (hG : 0 < w.heap.size)
    (M : ∀ W : World, Tab W → 0 < W.heap.size → Calls Tryz.prog 169 #[.int .i64 4, .slice (some ⟨W.heap.size, 0, none⟩) 2 2] (W.alloc (.cells #[.string y0, .string m] 9)) fun e w' => e = .returned (.tuple #[.string y, .bool b]) ∧ Below W.heap.size W w') :
    Calls Tryz.prog 119 #[.agg #[.string y0, .string y1, .string y2, .string y3, .string y4, .string y5, .string y6, .string y7], .agg #[.int .i64 0, .string m]] w fun e w' => e = .returned (.tuple #[.agg (if b = true then #[.string y, .string y1, .string y2, .string y3, .string y4, .string y5, .string y6, .string y7] else zeroR), .bool b]) ∧ Below w.heap.size w w' := by
  have HM := hid M
  obtain ⟨W0, hW0⟩ : ∃ W0, W0 = ((w.alloc (.cells #[.string y0, .string y1, .string y2, .string y3, .string y4, .string y5, .string y6, .string y7] 171)).alloc (.cells #[.int .i64 0, .string m] 131)).alloc (.cells zeroR 171) := ⟨_, rfl⟩
  have HB0 : Hid (Below w.heap.size w W0) := hid (by rw [hW0]; exact (((Below.refl _ _).alloc (Nat.le_refl _) _).alloc (by simp) _).alloc (by simp; omega) _)
  have HR0 : Hid (W0.heap[w.heap.size]? = some (.cells #[.string y0, .string y1, .string y2, .string y3, .string y4, .string y5, .string y6, .string y7] 171)) := hid (by rw [hW0]; exact heap_three_first _ _ _)
  have HE0 : Hid (W0.heap[w.heap.size + 1]? = some (.cells #[.int .i64 0, .string m] 131)) := hid (by rw [hW0]; exact heap_three_mid _ _ _)
  have HZ0 : Hid (W0.heap[w.heap.size + 2]? = some (.cells zeroR 171)) := hid (by rw [hW0]; exact heap_three_last _ _ _)
  have hz0 : w.heap.size + 2 < W0.heap.size := by rw [hW0]; simp
  have HT0 := hid (tab_on hT hG HB0.out)
  have hG0 := Nat.lt_of_lt_of_le hG HB0.out.size
  have e0 : ∀ W : World, Below W0.heap.size W0 W → W.cell? ⟨w.heap.size + 1, 0, none⟩ = some (.int .i64 0) := fun W hW => (cell_of_row W _ 0 _ _ _ ((hW.block _ (by omega)).trans HE0.out)).trans rfl
  have e1 : ∀ W : World, Below W0.heap.size W0 W → W.cell? ⟨w.heap.size + 1, 1, none⟩ = some (.string m) := fun W hW => (cell_of_row W _ 1 _ _ _ ((hW.block _ (by omega)).trans HE0.out)).trans rfl
  have r0 : ∀ W : World, Below W0.heap.size W0 W → W.cell? ⟨w.heap.size, 0, none⟩ = some (.string y0) := fun W hW => (cell_of_row W _ 0 _ _ _ ((hW.block _ (by omega)).trans HR0.out)).trans rfl
  have HTW := hid (fun W (hW : Below W0.heap.size W0 W) => tab_on HT0.out hG0 hW)
  have HW0 := hid hW0
  clear M hT hW0
  unfold zeroR at *
  go_enter Tryz.func119, Tryz.ntmps119
  go_wp2_with (go_at_call 168; refine (isreg_yes _ (by decide) _).mono ?_; rintro e wq ⟨rfl, eq1⟩; rw [eq1]; clear eq1 wq)
  rw [← HW0.out]
  go_region_held3 (fun w' => Below W0.heap.size W0 w') (first | with_reducible assumption | exact Below.refl _ _ | exact Below.drew (Below.refl _ _) | exact Below.alloc (Below.drew (Below.refl _ _)) (by simp) _ | exact Below.alloc (by with_reducible assumption) (by simp) _ | exact hb5') ((go_at_call 169; refine (HM.out (World.drew W0) (HTW.out _ (Below.drew (Below.refl _ _))) (by simpa using hG0)).mono ?_; rintro e w5 ⟨rfl, hb5⟩; have hb5' : Below W0.heap.size W0 w5 := (Below.drew (Below.refl _ _)).trans (hb5.mono (by simp))))
  rename_i hS
  have HB1 := hid (HB0.out.trans (hS.mono HB0.out.size))
  have HR1 := hid ((hS.block w.heap.size (by omega)).trans HR0.out)
  have HE1 := hid ((hS.block (w.heap.size + 1) (by omega)).trans HE0.out)
  have HZ1 := hid ((hS.block (w.heap.size + 2) (by omega)).trans HZ0.out)
  have hz1 : w.heap.size + 2 < w5.heap.size := by have := hS.size; omega
  clear hS e0 e1 r0 hb5 hb5'
  obtain ⟨c0, c1⟩ : w5.cell? ⟨w.heap.size + 1, 0, none⟩ = some (.int .i64 0) ∧ w5.cell? ⟨w.heap.size + 1, 1, none⟩ = some (.string m) := ⟨(cell_of_row w5 _ 0 _ _ _ HE1.out).trans rfl, (cell_of_row w5 _ 1 _ _ _ HE1.out).trans rfl⟩
  obtain ⟨k0, k1, k2, k3, k4, k5, k6, k7⟩ := eight_cells HR1.out
  obtain ⟨q0, q1, q2, q3, q4, q5, q6, q7⟩ := eight_cells HZ1.out
  have f0 := eight_thaw HZ1.out 0
  have f1 := eight_thaw HZ1.out 1
  have f2 := eight_thaw HZ1.out 2
  have f3 := eight_thaw HZ1.out 3
  have f4 := eight_thaw HZ1.out 4
  have f5 := eight_thaw HZ1.out 5
  have f6 := eight_thaw HZ1.out 6
  have f7 := eight_thaw HZ1.out 7
  have g0 := eight_thaw HR1.out 0
  have g1 := eight_thaw HR1.out 1
  have g2 := eight_thaw HR1.out 2
  have g3 := eight_thaw HR1.out 3
  have g4 := eight_thaw HR1.out 4
  have g5 := eight_thaw HR1.out 5
  have g6 := eight_thaw HR1.out 6
  have g7 := eight_thaw HR1.out 7
  have hz2 : w.heap.size < w5.heap.size := by omega
  cases b with
  | false =>
    go_wp2
    refine bodyPost_ret (v := .tuple #[.agg #[.string ⟨#[]⟩, .string ⟨#[]⟩, .string ⟨#[]⟩, .string ⟨#[]⟩, .string ⟨#[]⟩, .string ⟨#[]⟩, .string ⟨#[]⟩, .string ⟨#[]⟩], .bool false]) (by simp [results, Tryz.results119, go_sem, q0, q1, q2, q3, q4, q5, q6, q7]) rfl ⟨rfl, ?_⟩
    exact below_eight HB1.out (by omega) _ _ _ _ _ _ _ _
  | true =>
    go_wp2
    refine bodyPost_ret (v := .tuple #[.agg #[.string y, .string y1, .string y2, .string y3, .string y4, .string y5, .string y6, .string y7], .bool true]) (by simp [results, Tryz.results119, go_sem, q0, q1, q2, q3, q4, q5, q6, q7]) rfl ⟨rfl, ?_⟩
    exact below_eight (HB1.out.setCell (p := ⟨w.heap.size, 0, none⟩) (Nat.le_refl _) _) (by omega) _ _ _ _ _ _ _ _

set_option maxRecDepth 20000 in
set_option maxHeartbeats 2000000 in
theorem extd_1 (y0 y1 y2 y3 y4 y5 y6 y7 m y : ByteArray) (b : Bool) (w : World) (hT : Tab w) (hG : 0 < w.heap.size)
    (M : ∀ W : World, Tab W → 0 < W.heap.size → Calls Tryz.prog 169 #[.int .i64 4, .slice (some ⟨W.heap.size, 0, none⟩) 2 2] (W.alloc (.cells #[.string y1, .string m] 9)) fun e w' => e = .returned (.tuple #[.string y, .bool b]) ∧ Below W.heap.size W w') :
    Calls Tryz.prog 119 #[.agg #[.string y0, .string y1, .string y2, .string y3, .string y4, .string y5, .string y6, .string y7], .agg #[.int .i64 1, .string m]] w fun e w' => e = .returned (.tuple #[.agg (if b = true then #[.string y0, .string y, .string y2, .string y3, .string y4, .string y5, .string y6, .string y7] else zeroR), .bool b]) ∧ Below w.heap.size w w' := by
  have HM := hid M
  obtain ⟨W0, hW0⟩ : ∃ W0, W0 = ((w.alloc (.cells #[.string y0, .string y1, .string y2, .string y3, .string y4, .string y5, .string y6, .string y7] 171)).alloc (.cells #[.int .i64 1, .string m] 131)).alloc (.cells zeroR 171) := ⟨_, rfl⟩
  have HB0 : Hid (Below w.heap.size w W0) := hid (by rw [hW0]; exact (((Below.refl _ _).alloc (Nat.le_refl _) _).alloc (by simp) _).alloc (by simp; omega) _)
  have HR0 : Hid (W0.heap[w.heap.size]? = some (.cells #[.string y0, .string y1, .string y2, .string y3, .string y4, .string y5, .string y6, .string y7] 171)) := hid (by rw [hW0]; exact heap_three_first _ _ _)
  have HE0 : Hid (W0.heap[w.heap.size + 1]? = some (.cells #[.int .i64 1, .string m] 131)) := hid (by rw [hW0]; exact heap_three_mid _ _ _)
  have HZ0 : Hid (W0.heap[w.heap.size + 2]? = some (.cells zeroR 171)) := hid (by rw [hW0]; exact heap_three_last _ _ _)
  have hz0 : w.heap.size + 2 < W0.heap.size := by rw [hW0]; simp
  have HT0 := hid (tab_on hT hG HB0.out)
  have hG0 := Nat.lt_of_lt_of_le hG HB0.out.size
  have e0 : ∀ W : World, Below W0.heap.size W0 W → W.cell? ⟨w.heap.size + 1, 0, none⟩ = some (.int .i64 1) := fun W hW => (cell_of_row W _ 0 _ _ _ ((hW.block _ (by omega)).trans HE0.out)).trans rfl
  have e1 : ∀ W : World, Below W0.heap.size W0 W → W.cell? ⟨w.heap.size + 1, 1, none⟩ = some (.string m) := fun W hW => (cell_of_row W _ 1 _ _ _ ((hW.block _ (by omega)).trans HE0.out)).trans rfl
  have r0 : ∀ W : World, Below W0.heap.size W0 W → W.cell? ⟨w.heap.size, 1, none⟩ = some (.string y1) := fun W hW => (cell_of_row W _ 1 _ _ _ ((hW.block _ (by omega)).trans HR0.out)).trans rfl
  have HTW := hid (fun W (hW : Below W0.heap.size W0 W) => tab_on HT0.out hG0 hW)
  have HW0 := hid hW0
  clear M hT hW0
  unfold zeroR at *
  go_enter Tryz.func119, Tryz.ntmps119
  go_wp2_with (go_at_call 168; refine (isreg_yes _ (by decide) _).mono ?_; rintro e wq ⟨rfl, eq1⟩; rw [eq1]; clear eq1 wq)
  rw [← HW0.out]
  go_region_held3 (fun w' => Below W0.heap.size W0 w') (first | with_reducible assumption | exact Below.refl _ _ | exact Below.drew (Below.refl _ _) | exact Below.alloc (Below.drew (Below.refl _ _)) (by simp) _ | exact Below.alloc (by with_reducible assumption) (by simp) _ | exact hb5') ((go_at_call 169; refine (HM.out (World.drew W0) (HTW.out _ (Below.drew (Below.refl _ _))) (by simpa using hG0)).mono ?_; rintro e w5 ⟨rfl, hb5⟩; have hb5' : Below W0.heap.size W0 w5 := (Below.drew (Below.refl _ _)).trans (hb5.mono (by simp))))
  rename_i hS
  have HB1 := hid (HB0.out.trans (hS.mono HB0.out.size))
  have HR1 := hid ((hS.block w.heap.size (by omega)).trans HR0.out)
  have HE1 := hid ((hS.block (w.heap.size + 1) (by omega)).trans HE0.out)
  have HZ1 := hid ((hS.block (w.heap.size + 2) (by omega)).trans HZ0.out)
  have hz1 : w.heap.size + 2 < w5.heap.size := by have := hS.size; omega
  clear hS e0 e1 r0 hb5 hb5'
  obtain ⟨c0, c1⟩ : w5.cell? ⟨w.heap.size + 1, 0, none⟩ = some (.int .i64 1) ∧ w5.cell? ⟨w.heap.size + 1, 1, none⟩ = some (.string m) := ⟨(cell_of_row w5 _ 0 _ _ _ HE1.out).trans rfl, (cell_of_row w5 _ 1 _ _ _ HE1.out).trans rfl⟩
  obtain ⟨k0, k1, k2, k3, k4, k5, k6, k7⟩ := eight_cells HR1.out
  obtain ⟨q0, q1, q2, q3, q4, q5, q6, q7⟩ := eight_cells HZ1.out
  have f0 := eight_thaw HZ1.out 0
  have f1 := eight_thaw HZ1.out 1
  have f2 := eight_thaw HZ1.out 2
  have f3 := eight_thaw HZ1.out 3
  have f4 := eight_thaw HZ1.out 4
  have f5 := eight_thaw HZ1.out 5
  have f6 := eight_thaw HZ1.out 6
  have f7 := eight_thaw HZ1.out 7
  have g0 := eight_thaw HR1.out 0
  have g1 := eight_thaw HR1.out 1
  have g2 := eight_thaw HR1.out 2
  have g3 := eight_thaw HR1.out 3
  have g4 := eight_thaw HR1.out 4
  have g5 := eight_thaw HR1.out 5
  have g6 := eight_thaw HR1.out 6
  have g7 := eight_thaw HR1.out 7
  have hz2 : w.heap.size < w5.heap.size := by omega
  cases b with
  | false =>
    go_wp2
    refine bodyPost_ret (v := .tuple #[.agg #[.string ⟨#[]⟩, .string ⟨#[]⟩, .string ⟨#[]⟩, .string ⟨#[]⟩, .string ⟨#[]⟩, .string ⟨#[]⟩, .string ⟨#[]⟩, .string ⟨#[]⟩], .bool false]) (by simp [results, Tryz.results119, go_sem, q0, q1, q2, q3, q4, q5, q6, q7]) rfl ⟨rfl, ?_⟩
    exact below_eight HB1.out (by omega) _ _ _ _ _ _ _ _
  | true =>
    go_wp2
    refine bodyPost_ret (v := .tuple #[.agg #[.string y0, .string y, .string y2, .string y3, .string y4, .string y5, .string y6, .string y7], .bool true]) (by simp [results, Tryz.results119, go_sem, q0, q1, q2, q3, q4, q5, q6, q7]) rfl ⟨rfl, ?_⟩
    exact below_eight (HB1.out.setCell (p := ⟨w.heap.size, 1, none⟩) (Nat.le_refl _) _) (by omega) _ _ _ _ _ _ _ _

set_option maxRecDepth 20000 in
set_option maxHeartbeats 2000000 in
theorem extd_2 (y0 y1 y2 y3 y4 y5 y6 y7 m y : ByteArray) (b : Bool) (w : World) (hT : Tab w) (hG : 0 < w.heap.size)
    (M : ∀ W : World, Tab W → 0 < W.heap.size → Calls Tryz.prog 169 #[.int .i64 4, .slice (some ⟨W.heap.size, 0, none⟩) 2 2] (W.alloc (.cells #[.string y2, .string m] 9)) fun e w' => e = .returned (.tuple #[.string y, .bool b]) ∧ Below W.heap.size W w') :
    Calls Tryz.prog 119 #[.agg #[.string y0, .string y1, .string y2, .string y3, .string y4, .string y5, .string y6, .string y7], .agg #[.int .i64 2, .string m]] w fun e w' => e = .returned (.tuple #[.agg (if b = true then #[.string y0, .string y1, .string y, .string y3, .string y4, .string y5, .string y6, .string y7] else zeroR), .bool b]) ∧ Below w.heap.size w w' := by
  have HM := hid M
  obtain ⟨W0, hW0⟩ : ∃ W0, W0 = ((w.alloc (.cells #[.string y0, .string y1, .string y2, .string y3, .string y4, .string y5, .string y6, .string y7] 171)).alloc (.cells #[.int .i64 2, .string m] 131)).alloc (.cells zeroR 171) := ⟨_, rfl⟩
  have HB0 : Hid (Below w.heap.size w W0) := hid (by rw [hW0]; exact (((Below.refl _ _).alloc (Nat.le_refl _) _).alloc (by simp) _).alloc (by simp; omega) _)
  have HR0 : Hid (W0.heap[w.heap.size]? = some (.cells #[.string y0, .string y1, .string y2, .string y3, .string y4, .string y5, .string y6, .string y7] 171)) := hid (by rw [hW0]; exact heap_three_first _ _ _)
  have HE0 : Hid (W0.heap[w.heap.size + 1]? = some (.cells #[.int .i64 2, .string m] 131)) := hid (by rw [hW0]; exact heap_three_mid _ _ _)
  have HZ0 : Hid (W0.heap[w.heap.size + 2]? = some (.cells zeroR 171)) := hid (by rw [hW0]; exact heap_three_last _ _ _)
  have hz0 : w.heap.size + 2 < W0.heap.size := by rw [hW0]; simp
  have HT0 := hid (tab_on hT hG HB0.out)
  have hG0 := Nat.lt_of_lt_of_le hG HB0.out.size
  have e0 : ∀ W : World, Below W0.heap.size W0 W → W.cell? ⟨w.heap.size + 1, 0, none⟩ = some (.int .i64 2) := fun W hW => (cell_of_row W _ 0 _ _ _ ((hW.block _ (by omega)).trans HE0.out)).trans rfl
  have e1 : ∀ W : World, Below W0.heap.size W0 W → W.cell? ⟨w.heap.size + 1, 1, none⟩ = some (.string m) := fun W hW => (cell_of_row W _ 1 _ _ _ ((hW.block _ (by omega)).trans HE0.out)).trans rfl
  have r0 : ∀ W : World, Below W0.heap.size W0 W → W.cell? ⟨w.heap.size, 2, none⟩ = some (.string y2) := fun W hW => (cell_of_row W _ 2 _ _ _ ((hW.block _ (by omega)).trans HR0.out)).trans rfl
  have HTW := hid (fun W (hW : Below W0.heap.size W0 W) => tab_on HT0.out hG0 hW)
  have HW0 := hid hW0
  clear M hT hW0
  unfold zeroR at *
  go_enter Tryz.func119, Tryz.ntmps119
  go_wp2_with (go_at_call 168; refine (isreg_yes _ (by decide) _).mono ?_; rintro e wq ⟨rfl, eq1⟩; rw [eq1]; clear eq1 wq)
  rw [← HW0.out]
  go_region_held3 (fun w' => Below W0.heap.size W0 w') (first | with_reducible assumption | exact Below.refl _ _ | exact Below.drew (Below.refl _ _) | exact Below.alloc (Below.drew (Below.refl _ _)) (by simp) _ | exact Below.alloc (by with_reducible assumption) (by simp) _ | exact hb5') ((go_at_call 169; refine (HM.out (World.drew W0) (HTW.out _ (Below.drew (Below.refl _ _))) (by simpa using hG0)).mono ?_; rintro e w5 ⟨rfl, hb5⟩; have hb5' : Below W0.heap.size W0 w5 := (Below.drew (Below.refl _ _)).trans (hb5.mono (by simp))))
  rename_i hS
  have HB1 := hid (HB0.out.trans (hS.mono HB0.out.size))
  have HR1 := hid ((hS.block w.heap.size (by omega)).trans HR0.out)
  have HE1 := hid ((hS.block (w.heap.size + 1) (by omega)).trans HE0.out)
  have HZ1 := hid ((hS.block (w.heap.size + 2) (by omega)).trans HZ0.out)
  have hz1 : w.heap.size + 2 < w5.heap.size := by have := hS.size; omega
  clear hS e0 e1 r0 hb5 hb5'
  obtain ⟨c0, c1⟩ : w5.cell? ⟨w.heap.size + 1, 0, none⟩ = some (.int .i64 2) ∧ w5.cell? ⟨w.heap.size + 1, 1, none⟩ = some (.string m) := ⟨(cell_of_row w5 _ 0 _ _ _ HE1.out).trans rfl, (cell_of_row w5 _ 1 _ _ _ HE1.out).trans rfl⟩
  obtain ⟨k0, k1, k2, k3, k4, k5, k6, k7⟩ := eight_cells HR1.out
  obtain ⟨q0, q1, q2, q3, q4, q5, q6, q7⟩ := eight_cells HZ1.out
  have f0 := eight_thaw HZ1.out 0
  have f1 := eight_thaw HZ1.out 1
  have f2 := eight_thaw HZ1.out 2
  have f3 := eight_thaw HZ1.out 3
  have f4 := eight_thaw HZ1.out 4
  have f5 := eight_thaw HZ1.out 5
  have f6 := eight_thaw HZ1.out 6
  have f7 := eight_thaw HZ1.out 7
  have g0 := eight_thaw HR1.out 0
  have g1 := eight_thaw HR1.out 1
  have g2 := eight_thaw HR1.out 2
  have g3 := eight_thaw HR1.out 3
  have g4 := eight_thaw HR1.out 4
  have g5 := eight_thaw HR1.out 5
  have g6 := eight_thaw HR1.out 6
  have g7 := eight_thaw HR1.out 7
  have hz2 : w.heap.size < w5.heap.size := by omega
  cases b with
  | false =>
    go_wp2
    refine bodyPost_ret (v := .tuple #[.agg #[.string ⟨#[]⟩, .string ⟨#[]⟩, .string ⟨#[]⟩, .string ⟨#[]⟩, .string ⟨#[]⟩, .string ⟨#[]⟩, .string ⟨#[]⟩, .string ⟨#[]⟩], .bool false]) (by simp [results, Tryz.results119, go_sem, q0, q1, q2, q3, q4, q5, q6, q7]) rfl ⟨rfl, ?_⟩
    exact below_eight HB1.out (by omega) _ _ _ _ _ _ _ _
  | true =>
    go_wp2
    refine bodyPost_ret (v := .tuple #[.agg #[.string y0, .string y1, .string y, .string y3, .string y4, .string y5, .string y6, .string y7], .bool true]) (by simp [results, Tryz.results119, go_sem, q0, q1, q2, q3, q4, q5, q6, q7]) rfl ⟨rfl, ?_⟩
    exact below_eight (HB1.out.setCell (p := ⟨w.heap.size, 2, none⟩) (Nat.le_refl _) _) (by omega) _ _ _ _ _ _ _ _

set_option maxRecDepth 20000 in
set_option maxHeartbeats 2000000 in
theorem extd_3 (y0 y1 y2 y3 y4 y5 y6 y7 m y : ByteArray) (b : Bool) (w : World) (hT : Tab w) (hG : 0 < w.heap.size)
    (M : ∀ W : World, Tab W → 0 < W.heap.size → Calls Tryz.prog 169 #[.int .i64 4, .slice (some ⟨W.heap.size, 0, none⟩) 2 2] (W.alloc (.cells #[.string y3, .string m] 9)) fun e w' => e = .returned (.tuple #[.string y, .bool b]) ∧ Below W.heap.size W w') :
    Calls Tryz.prog 119 #[.agg #[.string y0, .string y1, .string y2, .string y3, .string y4, .string y5, .string y6, .string y7], .agg #[.int .i64 3, .string m]] w fun e w' => e = .returned (.tuple #[.agg (if b = true then #[.string y0, .string y1, .string y2, .string y, .string y4, .string y5, .string y6, .string y7] else zeroR), .bool b]) ∧ Below w.heap.size w w' := by
  have HM := hid M
  obtain ⟨W0, hW0⟩ : ∃ W0, W0 = ((w.alloc (.cells #[.string y0, .string y1, .string y2, .string y3, .string y4, .string y5, .string y6, .string y7] 171)).alloc (.cells #[.int .i64 3, .string m] 131)).alloc (.cells zeroR 171) := ⟨_, rfl⟩
  have HB0 : Hid (Below w.heap.size w W0) := hid (by rw [hW0]; exact (((Below.refl _ _).alloc (Nat.le_refl _) _).alloc (by simp) _).alloc (by simp; omega) _)
  have HR0 : Hid (W0.heap[w.heap.size]? = some (.cells #[.string y0, .string y1, .string y2, .string y3, .string y4, .string y5, .string y6, .string y7] 171)) := hid (by rw [hW0]; exact heap_three_first _ _ _)
  have HE0 : Hid (W0.heap[w.heap.size + 1]? = some (.cells #[.int .i64 3, .string m] 131)) := hid (by rw [hW0]; exact heap_three_mid _ _ _)
  have HZ0 : Hid (W0.heap[w.heap.size + 2]? = some (.cells zeroR 171)) := hid (by rw [hW0]; exact heap_three_last _ _ _)
  have hz0 : w.heap.size + 2 < W0.heap.size := by rw [hW0]; simp
  have HT0 := hid (tab_on hT hG HB0.out)
  have hG0 := Nat.lt_of_lt_of_le hG HB0.out.size
  have e0 : ∀ W : World, Below W0.heap.size W0 W → W.cell? ⟨w.heap.size + 1, 0, none⟩ = some (.int .i64 3) := fun W hW => (cell_of_row W _ 0 _ _ _ ((hW.block _ (by omega)).trans HE0.out)).trans rfl
  have e1 : ∀ W : World, Below W0.heap.size W0 W → W.cell? ⟨w.heap.size + 1, 1, none⟩ = some (.string m) := fun W hW => (cell_of_row W _ 1 _ _ _ ((hW.block _ (by omega)).trans HE0.out)).trans rfl
  have r0 : ∀ W : World, Below W0.heap.size W0 W → W.cell? ⟨w.heap.size, 3, none⟩ = some (.string y3) := fun W hW => (cell_of_row W _ 3 _ _ _ ((hW.block _ (by omega)).trans HR0.out)).trans rfl
  have HTW := hid (fun W (hW : Below W0.heap.size W0 W) => tab_on HT0.out hG0 hW)
  have HW0 := hid hW0
  clear M hT hW0
  unfold zeroR at *
  go_enter Tryz.func119, Tryz.ntmps119
  go_wp2_with (go_at_call 168; refine (isreg_yes _ (by decide) _).mono ?_; rintro e wq ⟨rfl, eq1⟩; rw [eq1]; clear eq1 wq)
  rw [← HW0.out]
  go_region_held3 (fun w' => Below W0.heap.size W0 w') (first | with_reducible assumption | exact Below.refl _ _ | exact Below.drew (Below.refl _ _) | exact Below.alloc (Below.drew (Below.refl _ _)) (by simp) _ | exact Below.alloc (by with_reducible assumption) (by simp) _ | exact hb5') ((go_at_call 169; refine (HM.out (World.drew W0) (HTW.out _ (Below.drew (Below.refl _ _))) (by simpa using hG0)).mono ?_; rintro e w5 ⟨rfl, hb5⟩; have hb5' : Below W0.heap.size W0 w5 := (Below.drew (Below.refl _ _)).trans (hb5.mono (by simp))))
  rename_i hS
  have HB1 := hid (HB0.out.trans (hS.mono HB0.out.size))
  have HR1 := hid ((hS.block w.heap.size (by omega)).trans HR0.out)
  have HE1 := hid ((hS.block (w.heap.size + 1) (by omega)).trans HE0.out)
  have HZ1 := hid ((hS.block (w.heap.size + 2) (by omega)).trans HZ0.out)
  have hz1 : w.heap.size + 2 < w5.heap.size := by have := hS.size; omega
  clear hS e0 e1 r0 hb5 hb5'
  obtain ⟨c0, c1⟩ : w5.cell? ⟨w.heap.size + 1, 0, none⟩ = some (.int .i64 3) ∧ w5.cell? ⟨w.heap.size + 1, 1, none⟩ = some (.string m) := ⟨(cell_of_row w5 _ 0 _ _ _ HE1.out).trans rfl, (cell_of_row w5 _ 1 _ _ _ HE1.out).trans rfl⟩
  obtain ⟨k0, k1, k2, k3, k4, k5, k6, k7⟩ := eight_cells HR1.out
  obtain ⟨q0, q1, q2, q3, q4, q5, q6, q7⟩ := eight_cells HZ1.out
  have f0 := eight_thaw HZ1.out 0
  have f1 := eight_thaw HZ1.out 1
  have f2 := eight_thaw HZ1.out 2
  have f3 := eight_thaw HZ1.out 3
  have f4 := eight_thaw HZ1.out 4
  have f5 := eight_thaw HZ1.out 5
  have f6 := eight_thaw HZ1.out 6
  have f7 := eight_thaw HZ1.out 7
  have g0 := eight_thaw HR1.out 0
  have g1 := eight_thaw HR1.out 1
  have g2 := eight_thaw HR1.out 2
  have g3 := eight_thaw HR1.out 3
  have g4 := eight_thaw HR1.out 4
  have g5 := eight_thaw HR1.out 5
  have g6 := eight_thaw HR1.out 6
  have g7 := eight_thaw HR1.out 7
  have hz2 : w.heap.size < w5.heap.size := by omega
  cases b with
  | false =>
    go_wp2
    refine bodyPost_ret (v := .tuple #[.agg #[.string ⟨#[]⟩, .string ⟨#[]⟩, .string ⟨#[]⟩, .string ⟨#[]⟩, .string ⟨#[]⟩, .string ⟨#[]⟩, .string ⟨#[]⟩, .string ⟨#[]⟩], .bool false]) (by simp [results, Tryz.results119, go_sem, q0, q1, q2, q3, q4, q5, q6, q7]) rfl ⟨rfl, ?_⟩
    exact below_eight HB1.out (by omega) _ _ _ _ _ _ _ _
  | true =>
    go_wp2
    refine bodyPost_ret (v := .tuple #[.agg #[.string y0, .string y1, .string y2, .string y, .string y4, .string y5, .string y6, .string y7], .bool true]) (by simp [results, Tryz.results119, go_sem, q0, q1, q2, q3, q4, q5, q6, q7]) rfl ⟨rfl, ?_⟩
    exact below_eight (HB1.out.setCell (p := ⟨w.heap.size, 3, none⟩) (Nat.le_refl _) _) (by omega) _ _ _ _ _ _ _ _

set_option maxRecDepth 20000 in
set_option maxHeartbeats 2000000 in
theorem extd_4 (y0 y1 y2 y3 y4 y5 y6 y7 m y : ByteArray) (b : Bool) (w : World) (hT : Tab w) (hG : 0 < w.heap.size)
    (M : ∀ W : World, Tab W → 0 < W.heap.size → Calls Tryz.prog 169 #[.int .i64 4, .slice (some ⟨W.heap.size, 0, none⟩) 2 2] (W.alloc (.cells #[.string y4, .string m] 9)) fun e w' => e = .returned (.tuple #[.string y, .bool b]) ∧ Below W.heap.size W w') :
    Calls Tryz.prog 119 #[.agg #[.string y0, .string y1, .string y2, .string y3, .string y4, .string y5, .string y6, .string y7], .agg #[.int .i64 4, .string m]] w fun e w' => e = .returned (.tuple #[.agg (if b = true then #[.string y0, .string y1, .string y2, .string y3, .string y, .string y5, .string y6, .string y7] else zeroR), .bool b]) ∧ Below w.heap.size w w' := by
  have HM := hid M
  obtain ⟨W0, hW0⟩ : ∃ W0, W0 = ((w.alloc (.cells #[.string y0, .string y1, .string y2, .string y3, .string y4, .string y5, .string y6, .string y7] 171)).alloc (.cells #[.int .i64 4, .string m] 131)).alloc (.cells zeroR 171) := ⟨_, rfl⟩
  have HB0 : Hid (Below w.heap.size w W0) := hid (by rw [hW0]; exact (((Below.refl _ _).alloc (Nat.le_refl _) _).alloc (by simp) _).alloc (by simp; omega) _)
  have HR0 : Hid (W0.heap[w.heap.size]? = some (.cells #[.string y0, .string y1, .string y2, .string y3, .string y4, .string y5, .string y6, .string y7] 171)) := hid (by rw [hW0]; exact heap_three_first _ _ _)
  have HE0 : Hid (W0.heap[w.heap.size + 1]? = some (.cells #[.int .i64 4, .string m] 131)) := hid (by rw [hW0]; exact heap_three_mid _ _ _)
  have HZ0 : Hid (W0.heap[w.heap.size + 2]? = some (.cells zeroR 171)) := hid (by rw [hW0]; exact heap_three_last _ _ _)
  have hz0 : w.heap.size + 2 < W0.heap.size := by rw [hW0]; simp
  have HT0 := hid (tab_on hT hG HB0.out)
  have hG0 := Nat.lt_of_lt_of_le hG HB0.out.size
  have e0 : ∀ W : World, Below W0.heap.size W0 W → W.cell? ⟨w.heap.size + 1, 0, none⟩ = some (.int .i64 4) := fun W hW => (cell_of_row W _ 0 _ _ _ ((hW.block _ (by omega)).trans HE0.out)).trans rfl
  have e1 : ∀ W : World, Below W0.heap.size W0 W → W.cell? ⟨w.heap.size + 1, 1, none⟩ = some (.string m) := fun W hW => (cell_of_row W _ 1 _ _ _ ((hW.block _ (by omega)).trans HE0.out)).trans rfl
  have r0 : ∀ W : World, Below W0.heap.size W0 W → W.cell? ⟨w.heap.size, 4, none⟩ = some (.string y4) := fun W hW => (cell_of_row W _ 4 _ _ _ ((hW.block _ (by omega)).trans HR0.out)).trans rfl
  have HTW := hid (fun W (hW : Below W0.heap.size W0 W) => tab_on HT0.out hG0 hW)
  have HW0 := hid hW0
  clear M hT hW0
  unfold zeroR at *
  go_enter Tryz.func119, Tryz.ntmps119
  go_wp2_with (go_at_call 168; refine (isreg_yes _ (by decide) _).mono ?_; rintro e wq ⟨rfl, eq1⟩; rw [eq1]; clear eq1 wq)
  rw [← HW0.out]
  go_region_held3 (fun w' => Below W0.heap.size W0 w') (first | with_reducible assumption | exact Below.refl _ _ | exact Below.drew (Below.refl _ _) | exact Below.alloc (Below.drew (Below.refl _ _)) (by simp) _ | exact Below.alloc (by with_reducible assumption) (by simp) _ | exact hb5') ((go_at_call 169; refine (HM.out (World.drew W0) (HTW.out _ (Below.drew (Below.refl _ _))) (by simpa using hG0)).mono ?_; rintro e w5 ⟨rfl, hb5⟩; have hb5' : Below W0.heap.size W0 w5 := (Below.drew (Below.refl _ _)).trans (hb5.mono (by simp))))
  rename_i hS
  have HB1 := hid (HB0.out.trans (hS.mono HB0.out.size))
  have HR1 := hid ((hS.block w.heap.size (by omega)).trans HR0.out)
  have HE1 := hid ((hS.block (w.heap.size + 1) (by omega)).trans HE0.out)
  have HZ1 := hid ((hS.block (w.heap.size + 2) (by omega)).trans HZ0.out)
  have hz1 : w.heap.size + 2 < w5.heap.size := by have := hS.size; omega
  clear hS e0 e1 r0 hb5 hb5'
  obtain ⟨c0, c1⟩ : w5.cell? ⟨w.heap.size + 1, 0, none⟩ = some (.int .i64 4) ∧ w5.cell? ⟨w.heap.size + 1, 1, none⟩ = some (.string m) := ⟨(cell_of_row w5 _ 0 _ _ _ HE1.out).trans rfl, (cell_of_row w5 _ 1 _ _ _ HE1.out).trans rfl⟩
  obtain ⟨k0, k1, k2, k3, k4, k5, k6, k7⟩ := eight_cells HR1.out
  obtain ⟨q0, q1, q2, q3, q4, q5, q6, q7⟩ := eight_cells HZ1.out
  have f0 := eight_thaw HZ1.out 0
  have f1 := eight_thaw HZ1.out 1
  have f2 := eight_thaw HZ1.out 2
  have f3 := eight_thaw HZ1.out 3
  have f4 := eight_thaw HZ1.out 4
  have f5 := eight_thaw HZ1.out 5
  have f6 := eight_thaw HZ1.out 6
  have f7 := eight_thaw HZ1.out 7
  have g0 := eight_thaw HR1.out 0
  have g1 := eight_thaw HR1.out 1
  have g2 := eight_thaw HR1.out 2
  have g3 := eight_thaw HR1.out 3
  have g4 := eight_thaw HR1.out 4
  have g5 := eight_thaw HR1.out 5
  have g6 := eight_thaw HR1.out 6
  have g7 := eight_thaw HR1.out 7
  have hz2 : w.heap.size < w5.heap.size := by omega
  cases b with
  | false =>
    go_wp2
    refine bodyPost_ret (v := .tuple #[.agg #[.string ⟨#[]⟩, .string ⟨#[]⟩, .string ⟨#[]⟩, .string ⟨#[]⟩, .string ⟨#[]⟩, .string ⟨#[]⟩, .string ⟨#[]⟩, .string ⟨#[]⟩], .bool false]) (by simp [results, Tryz.results119, go_sem, q0, q1, q2, q3, q4, q5, q6, q7]) rfl ⟨rfl, ?_⟩
    exact below_eight HB1.out (by omega) _ _ _ _ _ _ _ _
  | true =>
    go_wp2
    refine bodyPost_ret (v := .tuple #[.agg #[.string y0, .string y1, .string y2, .string y3, .string y, .string y5, .string y6, .string y7], .bool true]) (by simp [results, Tryz.results119, go_sem, q0, q1, q2, q3, q4, q5, q6, q7]) rfl ⟨rfl, ?_⟩
    exact below_eight (HB1.out.setCell (p := ⟨w.heap.size, 4, none⟩) (Nat.le_refl _) _) (by omega) _ _ _ _ _ _ _ _

set_option maxRecDepth 20000 in
set_option maxHeartbeats 2000000 in
theorem extd_5 (y0 y1 y2 y3 y4 y5 y6 y7 m y : ByteArray) (b : Bool) (w : World) (hT : Tab w) (hG : 0 < w.heap.size)
    (M : ∀ W : World, Tab W → 0 < W.heap.size → Calls Tryz.prog 169 #[.int .i64 4, .slice (some ⟨W.heap.size, 0, none⟩) 2 2] (W.alloc (.cells #[.string y5, .string m] 9)) fun e w' => e = .returned (.tuple #[.string y, .bool b]) ∧ Below W.heap.size W w') :
    Calls Tryz.prog 119 #[.agg #[.string y0, .string y1, .string y2, .string y3, .string y4, .string y5, .string y6, .string y7], .agg #[.int .i64 5, .string m]] w fun e w' => e = .returned (.tuple #[.agg (if b = true then #[.string y0, .string y1, .string y2, .string y3, .string y4, .string y, .string y6, .string y7] else zeroR), .bool b]) ∧ Below w.heap.size w w' := by
  have HM := hid M
  obtain ⟨W0, hW0⟩ : ∃ W0, W0 = ((w.alloc (.cells #[.string y0, .string y1, .string y2, .string y3, .string y4, .string y5, .string y6, .string y7] 171)).alloc (.cells #[.int .i64 5, .string m] 131)).alloc (.cells zeroR 171) := ⟨_, rfl⟩
  have HB0 : Hid (Below w.heap.size w W0) := hid (by rw [hW0]; exact (((Below.refl _ _).alloc (Nat.le_refl _) _).alloc (by simp) _).alloc (by simp; omega) _)
  have HR0 : Hid (W0.heap[w.heap.size]? = some (.cells #[.string y0, .string y1, .string y2, .string y3, .string y4, .string y5, .string y6, .string y7] 171)) := hid (by rw [hW0]; exact heap_three_first _ _ _)
  have HE0 : Hid (W0.heap[w.heap.size + 1]? = some (.cells #[.int .i64 5, .string m] 131)) := hid (by rw [hW0]; exact heap_three_mid _ _ _)
  have HZ0 : Hid (W0.heap[w.heap.size + 2]? = some (.cells zeroR 171)) := hid (by rw [hW0]; exact heap_three_last _ _ _)
  have hz0 : w.heap.size + 2 < W0.heap.size := by rw [hW0]; simp
  have HT0 := hid (tab_on hT hG HB0.out)
  have hG0 := Nat.lt_of_lt_of_le hG HB0.out.size
  have e0 : ∀ W : World, Below W0.heap.size W0 W → W.cell? ⟨w.heap.size + 1, 0, none⟩ = some (.int .i64 5) := fun W hW => (cell_of_row W _ 0 _ _ _ ((hW.block _ (by omega)).trans HE0.out)).trans rfl
  have e1 : ∀ W : World, Below W0.heap.size W0 W → W.cell? ⟨w.heap.size + 1, 1, none⟩ = some (.string m) := fun W hW => (cell_of_row W _ 1 _ _ _ ((hW.block _ (by omega)).trans HE0.out)).trans rfl
  have r0 : ∀ W : World, Below W0.heap.size W0 W → W.cell? ⟨w.heap.size, 5, none⟩ = some (.string y5) := fun W hW => (cell_of_row W _ 5 _ _ _ ((hW.block _ (by omega)).trans HR0.out)).trans rfl
  have HTW := hid (fun W (hW : Below W0.heap.size W0 W) => tab_on HT0.out hG0 hW)
  have HW0 := hid hW0
  clear M hT hW0
  unfold zeroR at *
  go_enter Tryz.func119, Tryz.ntmps119
  go_wp2_with (go_at_call 168; refine (isreg_yes _ (by decide) _).mono ?_; rintro e wq ⟨rfl, eq1⟩; rw [eq1]; clear eq1 wq)
  rw [← HW0.out]
  go_region_held3 (fun w' => Below W0.heap.size W0 w') (first | with_reducible assumption | exact Below.refl _ _ | exact Below.drew (Below.refl _ _) | exact Below.alloc (Below.drew (Below.refl _ _)) (by simp) _ | exact Below.alloc (by with_reducible assumption) (by simp) _ | exact hb5') ((go_at_call 169; refine (HM.out (World.drew W0) (HTW.out _ (Below.drew (Below.refl _ _))) (by simpa using hG0)).mono ?_; rintro e w5 ⟨rfl, hb5⟩; have hb5' : Below W0.heap.size W0 w5 := (Below.drew (Below.refl _ _)).trans (hb5.mono (by simp))))
  rename_i hS
  have HB1 := hid (HB0.out.trans (hS.mono HB0.out.size))
  have HR1 := hid ((hS.block w.heap.size (by omega)).trans HR0.out)
  have HE1 := hid ((hS.block (w.heap.size + 1) (by omega)).trans HE0.out)
  have HZ1 := hid ((hS.block (w.heap.size + 2) (by omega)).trans HZ0.out)
  have hz1 : w.heap.size + 2 < w5.heap.size := by have := hS.size; omega
  clear hS e0 e1 r0 hb5 hb5'
  obtain ⟨c0, c1⟩ : w5.cell? ⟨w.heap.size + 1, 0, none⟩ = some (.int .i64 5) ∧ w5.cell? ⟨w.heap.size + 1, 1, none⟩ = some (.string m) := ⟨(cell_of_row w5 _ 0 _ _ _ HE1.out).trans rfl, (cell_of_row w5 _ 1 _ _ _ HE1.out).trans rfl⟩
  obtain ⟨k0, k1, k2, k3, k4, k5, k6, k7⟩ := eight_cells HR1.out
  obtain ⟨q0, q1, q2, q3, q4, q5, q6, q7⟩ := eight_cells HZ1.out
  have f0 := eight_thaw HZ1.out 0
  have f1 := eight_thaw HZ1.out 1
  have f2 := eight_thaw HZ1.out 2
  have f3 := eight_thaw HZ1.out 3
  have f4 := eight_thaw HZ1.out 4
  have f5 := eight_thaw HZ1.out 5
  have f6 := eight_thaw HZ1.out 6
  have f7 := eight_thaw HZ1.out 7
  have g0 := eight_thaw HR1.out 0
  have g1 := eight_thaw HR1.out 1
  have g2 := eight_thaw HR1.out 2
  have g3 := eight_thaw HR1.out 3
  have g4 := eight_thaw HR1.out 4
  have g5 := eight_thaw HR1.out 5
  have g6 := eight_thaw HR1.out 6
  have g7 := eight_thaw HR1.out 7
  have hz2 : w.heap.size < w5.heap.size := by omega
  cases b with
  | false =>
    go_wp2
    refine bodyPost_ret (v := .tuple #[.agg #[.string ⟨#[]⟩, .string ⟨#[]⟩, .string ⟨#[]⟩, .string ⟨#[]⟩, .string ⟨#[]⟩, .string ⟨#[]⟩, .string ⟨#[]⟩, .string ⟨#[]⟩], .bool false]) (by simp [results, Tryz.results119, go_sem, q0, q1, q2, q3, q4, q5, q6, q7]) rfl ⟨rfl, ?_⟩
    exact below_eight HB1.out (by omega) _ _ _ _ _ _ _ _
  | true =>
    go_wp2
    refine bodyPost_ret (v := .tuple #[.agg #[.string y0, .string y1, .string y2, .string y3, .string y4, .string y, .string y6, .string y7], .bool true]) (by simp [results, Tryz.results119, go_sem, q0, q1, q2, q3, q4, q5, q6, q7]) rfl ⟨rfl, ?_⟩
    exact below_eight (HB1.out.setCell (p := ⟨w.heap.size, 5, none⟩) (Nat.le_refl _) _) (by omega) _ _ _ _ _ _ _ _

set_option maxRecDepth 20000 in
set_option maxHeartbeats 2000000 in
theorem extd_6 (y0 y1 y2 y3 y4 y5 y6 y7 m y : ByteArray) (b : Bool) (w : World) (hT : Tab w) (hG : 0 < w.heap.size)
    (M : ∀ W : World, Tab W → 0 < W.heap.size → Calls Tryz.prog 169 #[.int .i64 4, .slice (some ⟨W.heap.size, 0, none⟩) 2 2] (W.alloc (.cells #[.string y6, .string m] 9)) fun e w' => e = .returned (.tuple #[.string y, .bool b]) ∧ Below W.heap.size W w') :
    Calls Tryz.prog 119 #[.agg #[.string y0, .string y1, .string y2, .string y3, .string y4, .string y5, .string y6, .string y7], .agg #[.int .i64 6, .string m]] w fun e w' => e = .returned (.tuple #[.agg (if b = true then #[.string y0, .string y1, .string y2, .string y3, .string y4, .string y5, .string y, .string y7] else zeroR), .bool b]) ∧ Below w.heap.size w w' := by
  have HM := hid M
  obtain ⟨W0, hW0⟩ : ∃ W0, W0 = ((w.alloc (.cells #[.string y0, .string y1, .string y2, .string y3, .string y4, .string y5, .string y6, .string y7] 171)).alloc (.cells #[.int .i64 6, .string m] 131)).alloc (.cells zeroR 171) := ⟨_, rfl⟩
  have HB0 : Hid (Below w.heap.size w W0) := hid (by rw [hW0]; exact (((Below.refl _ _).alloc (Nat.le_refl _) _).alloc (by simp) _).alloc (by simp; omega) _)
  have HR0 : Hid (W0.heap[w.heap.size]? = some (.cells #[.string y0, .string y1, .string y2, .string y3, .string y4, .string y5, .string y6, .string y7] 171)) := hid (by rw [hW0]; exact heap_three_first _ _ _)
  have HE0 : Hid (W0.heap[w.heap.size + 1]? = some (.cells #[.int .i64 6, .string m] 131)) := hid (by rw [hW0]; exact heap_three_mid _ _ _)
  have HZ0 : Hid (W0.heap[w.heap.size + 2]? = some (.cells zeroR 171)) := hid (by rw [hW0]; exact heap_three_last _ _ _)
  have hz0 : w.heap.size + 2 < W0.heap.size := by rw [hW0]; simp
  have HT0 := hid (tab_on hT hG HB0.out)
  have hG0 := Nat.lt_of_lt_of_le hG HB0.out.size
  have e0 : ∀ W : World, Below W0.heap.size W0 W → W.cell? ⟨w.heap.size + 1, 0, none⟩ = some (.int .i64 6) := fun W hW => (cell_of_row W _ 0 _ _ _ ((hW.block _ (by omega)).trans HE0.out)).trans rfl
  have e1 : ∀ W : World, Below W0.heap.size W0 W → W.cell? ⟨w.heap.size + 1, 1, none⟩ = some (.string m) := fun W hW => (cell_of_row W _ 1 _ _ _ ((hW.block _ (by omega)).trans HE0.out)).trans rfl
  have r0 : ∀ W : World, Below W0.heap.size W0 W → W.cell? ⟨w.heap.size, 6, none⟩ = some (.string y6) := fun W hW => (cell_of_row W _ 6 _ _ _ ((hW.block _ (by omega)).trans HR0.out)).trans rfl
  have HTW := hid (fun W (hW : Below W0.heap.size W0 W) => tab_on HT0.out hG0 hW)
  have HW0 := hid hW0
  clear M hT hW0
  unfold zeroR at *
  go_enter Tryz.func119, Tryz.ntmps119
  go_wp2_with (go_at_call 168; refine (isreg_yes _ (by decide) _).mono ?_; rintro e wq ⟨rfl, eq1⟩; rw [eq1]; clear eq1 wq)
  rw [← HW0.out]
  go_region_held3 (fun w' => Below W0.heap.size W0 w') (first | with_reducible assumption | exact Below.refl _ _ | exact Below.drew (Below.refl _ _) | exact Below.alloc (Below.drew (Below.refl _ _)) (by simp) _ | exact Below.alloc (by with_reducible assumption) (by simp) _ | exact hb5') ((go_at_call 169; refine (HM.out (World.drew W0) (HTW.out _ (Below.drew (Below.refl _ _))) (by simpa using hG0)).mono ?_; rintro e w5 ⟨rfl, hb5⟩; have hb5' : Below W0.heap.size W0 w5 := (Below.drew (Below.refl _ _)).trans (hb5.mono (by simp))))
  rename_i hS
  have HB1 := hid (HB0.out.trans (hS.mono HB0.out.size))
  have HR1 := hid ((hS.block w.heap.size (by omega)).trans HR0.out)
  have HE1 := hid ((hS.block (w.heap.size + 1) (by omega)).trans HE0.out)
  have HZ1 := hid ((hS.block (w.heap.size + 2) (by omega)).trans HZ0.out)
  have hz1 : w.heap.size + 2 < w5.heap.size := by have := hS.size; omega
  clear hS e0 e1 r0 hb5 hb5'
  obtain ⟨c0, c1⟩ : w5.cell? ⟨w.heap.size + 1, 0, none⟩ = some (.int .i64 6) ∧ w5.cell? ⟨w.heap.size + 1, 1, none⟩ = some (.string m) := ⟨(cell_of_row w5 _ 0 _ _ _ HE1.out).trans rfl, (cell_of_row w5 _ 1 _ _ _ HE1.out).trans rfl⟩
  obtain ⟨k0, k1, k2, k3, k4, k5, k6, k7⟩ := eight_cells HR1.out
  obtain ⟨q0, q1, q2, q3, q4, q5, q6, q7⟩ := eight_cells HZ1.out
  have f0 := eight_thaw HZ1.out 0
  have f1 := eight_thaw HZ1.out 1
  have f2 := eight_thaw HZ1.out 2
  have f3 := eight_thaw HZ1.out 3
  have f4 := eight_thaw HZ1.out 4
  have f5 := eight_thaw HZ1.out 5
  have f6 := eight_thaw HZ1.out 6
  have f7 := eight_thaw HZ1.out 7
  have g0 := eight_thaw HR1.out 0
  have g1 := eight_thaw HR1.out 1
  have g2 := eight_thaw HR1.out 2
  have g3 := eight_thaw HR1.out 3
  have g4 := eight_thaw HR1.out 4
  have g5 := eight_thaw HR1.out 5
  have g6 := eight_thaw HR1.out 6
  have g7 := eight_thaw HR1.out 7
  have hz2 : w.heap.size < w5.heap.size := by omega
  cases b with
  | false =>
    go_wp2
    refine bodyPost_ret (v := .tuple #[.agg #[.string ⟨#[]⟩, .string ⟨#[]⟩, .string ⟨#[]⟩, .string ⟨#[]⟩, .string ⟨#[]⟩, .string ⟨#[]⟩, .string ⟨#[]⟩, .string ⟨#[]⟩], .bool false]) (by simp [results, Tryz.results119, go_sem, q0, q1, q2, q3, q4, q5, q6, q7]) rfl ⟨rfl, ?_⟩
    exact below_eight HB1.out (by omega) _ _ _ _ _ _ _ _
  | true =>
    go_wp2
    refine bodyPost_ret (v := .tuple #[.agg #[.string y0, .string y1, .string y2, .string y3, .string y4, .string y5, .string y, .string y7], .bool true]) (by simp [results, Tryz.results119, go_sem, q0, q1, q2, q3, q4, q5, q6, q7]) rfl ⟨rfl, ?_⟩
    exact below_eight (HB1.out.setCell (p := ⟨w.heap.size, 6, none⟩) (Nat.le_refl _) _) (by omega) _ _ _ _ _ _ _ _

set_option maxRecDepth 20000 in
set_option maxHeartbeats 2000000 in
theorem extd_7 (y0 y1 y2 y3 y4 y5 y6 y7 m y : ByteArray) (b : Bool) (w : World) (hT : Tab w) (hG : 0 < w.heap.size)
    (M : ∀ W : World, Tab W → 0 < W.heap.size → Calls Tryz.prog 169 #[.int .i64 4, .slice (some ⟨W.heap.size, 0, none⟩) 2 2] (W.alloc (.cells #[.string y7, .string m] 9)) fun e w' => e = .returned (.tuple #[.string y, .bool b]) ∧ Below W.heap.size W w') :
    Calls Tryz.prog 119 #[.agg #[.string y0, .string y1, .string y2, .string y3, .string y4, .string y5, .string y6, .string y7], .agg #[.int .i64 7, .string m]] w fun e w' => e = .returned (.tuple #[.agg (if b = true then #[.string y0, .string y1, .string y2, .string y3, .string y4, .string y5, .string y6, .string y] else zeroR), .bool b]) ∧ Below w.heap.size w w' := by
  have HM := hid M
  obtain ⟨W0, hW0⟩ : ∃ W0, W0 = ((w.alloc (.cells #[.string y0, .string y1, .string y2, .string y3, .string y4, .string y5, .string y6, .string y7] 171)).alloc (.cells #[.int .i64 7, .string m] 131)).alloc (.cells zeroR 171) := ⟨_, rfl⟩
  have HB0 : Hid (Below w.heap.size w W0) := hid (by rw [hW0]; exact (((Below.refl _ _).alloc (Nat.le_refl _) _).alloc (by simp) _).alloc (by simp; omega) _)
  have HR0 : Hid (W0.heap[w.heap.size]? = some (.cells #[.string y0, .string y1, .string y2, .string y3, .string y4, .string y5, .string y6, .string y7] 171)) := hid (by rw [hW0]; exact heap_three_first _ _ _)
  have HE0 : Hid (W0.heap[w.heap.size + 1]? = some (.cells #[.int .i64 7, .string m] 131)) := hid (by rw [hW0]; exact heap_three_mid _ _ _)
  have HZ0 : Hid (W0.heap[w.heap.size + 2]? = some (.cells zeroR 171)) := hid (by rw [hW0]; exact heap_three_last _ _ _)
  have hz0 : w.heap.size + 2 < W0.heap.size := by rw [hW0]; simp
  have HT0 := hid (tab_on hT hG HB0.out)
  have hG0 := Nat.lt_of_lt_of_le hG HB0.out.size
  have e0 : ∀ W : World, Below W0.heap.size W0 W → W.cell? ⟨w.heap.size + 1, 0, none⟩ = some (.int .i64 7) := fun W hW => (cell_of_row W _ 0 _ _ _ ((hW.block _ (by omega)).trans HE0.out)).trans rfl
  have e1 : ∀ W : World, Below W0.heap.size W0 W → W.cell? ⟨w.heap.size + 1, 1, none⟩ = some (.string m) := fun W hW => (cell_of_row W _ 1 _ _ _ ((hW.block _ (by omega)).trans HE0.out)).trans rfl
  have r0 : ∀ W : World, Below W0.heap.size W0 W → W.cell? ⟨w.heap.size, 7, none⟩ = some (.string y7) := fun W hW => (cell_of_row W _ 7 _ _ _ ((hW.block _ (by omega)).trans HR0.out)).trans rfl
  have HTW := hid (fun W (hW : Below W0.heap.size W0 W) => tab_on HT0.out hG0 hW)
  have HW0 := hid hW0
  clear M hT hW0
  unfold zeroR at *
  go_enter Tryz.func119, Tryz.ntmps119
  go_wp2_with (go_at_call 168; refine (isreg_yes _ (by decide) _).mono ?_; rintro e wq ⟨rfl, eq1⟩; rw [eq1]; clear eq1 wq)
  rw [← HW0.out]
  go_region_held3 (fun w' => Below W0.heap.size W0 w') (first | with_reducible assumption | exact Below.refl _ _ | exact Below.drew (Below.refl _ _) | exact Below.alloc (Below.drew (Below.refl _ _)) (by simp) _ | exact Below.alloc (by with_reducible assumption) (by simp) _ | exact hb5') ((go_at_call 169; refine (HM.out (World.drew W0) (HTW.out _ (Below.drew (Below.refl _ _))) (by simpa using hG0)).mono ?_; rintro e w5 ⟨rfl, hb5⟩; have hb5' : Below W0.heap.size W0 w5 := (Below.drew (Below.refl _ _)).trans (hb5.mono (by simp))))
  rename_i hS
  have HB1 := hid (HB0.out.trans (hS.mono HB0.out.size))
  have HR1 := hid ((hS.block w.heap.size (by omega)).trans HR0.out)
  have HE1 := hid ((hS.block (w.heap.size + 1) (by omega)).trans HE0.out)
  have HZ1 := hid ((hS.block (w.heap.size + 2) (by omega)).trans HZ0.out)
  have hz1 : w.heap.size + 2 < w5.heap.size := by have := hS.size; omega
  clear hS e0 e1 r0 hb5 hb5'
  obtain ⟨c0, c1⟩ : w5.cell? ⟨w.heap.size + 1, 0, none⟩ = some (.int .i64 7) ∧ w5.cell? ⟨w.heap.size + 1, 1, none⟩ = some (.string m) := ⟨(cell_of_row w5 _ 0 _ _ _ HE1.out).trans rfl, (cell_of_row w5 _ 1 _ _ _ HE1.out).trans rfl⟩
  obtain ⟨k0, k1, k2, k3, k4, k5, k6, k7⟩ := eight_cells HR1.out
  obtain ⟨q0, q1, q2, q3, q4, q5, q6, q7⟩ := eight_cells HZ1.out
  have f0 := eight_thaw HZ1.out 0
  have f1 := eight_thaw HZ1.out 1
  have f2 := eight_thaw HZ1.out 2
  have f3 := eight_thaw HZ1.out 3
  have f4 := eight_thaw HZ1.out 4
  have f5 := eight_thaw HZ1.out 5
  have f6 := eight_thaw HZ1.out 6
  have f7 := eight_thaw HZ1.out 7
  have g0 := eight_thaw HR1.out 0
  have g1 := eight_thaw HR1.out 1
  have g2 := eight_thaw HR1.out 2
  have g3 := eight_thaw HR1.out 3
  have g4 := eight_thaw HR1.out 4
  have g5 := eight_thaw HR1.out 5
  have g6 := eight_thaw HR1.out 6
  have g7 := eight_thaw HR1.out 7
  have hz2 : w.heap.size < w5.heap.size := by omega
  cases b with
  | false =>
    go_wp2
    refine bodyPost_ret (v := .tuple #[.agg #[.string ⟨#[]⟩, .string ⟨#[]⟩, .string ⟨#[]⟩, .string ⟨#[]⟩, .string ⟨#[]⟩, .string ⟨#[]⟩, .string ⟨#[]⟩, .string ⟨#[]⟩], .bool false]) (by simp [results, Tryz.results119, go_sem, q0, q1, q2, q3, q4, q5, q6, q7]) rfl ⟨rfl, ?_⟩
    exact below_eight HB1.out (by omega) _ _ _ _ _ _ _ _
  | true =>
    go_wp2
    refine bodyPost_ret (v := .tuple #[.agg #[.string y0, .string y1, .string y2, .string y3, .string y4, .string y5, .string y6, .string y], .bool true]) (by simp [results, Tryz.results119, go_sem, q0, q1, q2, q3, q4, q5, q6, q7]) rfl ⟨rfl, ?_⟩
    exact below_eight (HB1.out.setCell (p := ⟨w.heap.size, 7, none⟩) (Nat.le_refl _) _) (by omega) _ _ _ _ _ _ _ _

end Go.Proofs.YtgmgffbfpbkfmaaGreatDoor
