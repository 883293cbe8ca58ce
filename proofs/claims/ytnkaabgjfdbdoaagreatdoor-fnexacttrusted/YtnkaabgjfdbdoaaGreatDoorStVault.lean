/- The helpers of the laws on a Vault: its size, a copy. Written by a program of ours. -/
import Derived.Test.YtnkaabgjfdbdoaaGreatDoorPackSt
import Derived.Test.YtnkaabgjfdbdoaaGreatDoorRowSeal
namespace Go.Proofs.YtnkaabgjfdbdoaaGreatDoor
open Go.RowKit
open Go.Lib (hid)

theorem six_cells {W : World} {b : Nat} {x0 x1 x2 x3 x4 x5 : Value} {t : TypeId} (h : W.heap[b]? = some (.cells #[x0, x1, x2, x3, x4, x5] t)) :
    W.cell? ⟨b, 0, none⟩ = some x0 ∧ W.cell? ⟨b, 1, none⟩ = some x1 ∧ W.cell? ⟨b, 2, none⟩ = some x2 ∧ W.cell? ⟨b, 3, none⟩ = some x3 ∧ W.cell? ⟨b, 4, none⟩ = some x4 ∧ W.cell? ⟨b, 5, none⟩ = some x5 :=
  ⟨(cell_of_row W b 0 _ _ _ h).trans rfl, (cell_of_row W b 1 _ _ _ h).trans rfl, (cell_of_row W b 2 _ _ _ h).trans rfl, (cell_of_row W b 3 _ _ _ h).trans rfl, (cell_of_row W b 4 _ _ _ h).trans rfl, (cell_of_row W b 5 _ _ _ h).trans rfl⟩

set_option maxRecDepth 20000 in
set_option maxHeartbeats 4000000 in
theorem sz_Vault (es : List SealD) (st y0 y1 : Int) (y2 y3 : ByteArray) (s0 : ∀ e ∈ es, tameSeal e) (n0 : es.length ≤ maxLen) (z2 : y2.size ≤ 9223372036854775807) (z3 : y3.size ≤ 9223372036854775807) (k : Nat) (hk : k ≤ 1048576) (a : Value) (w : World) (ha : FArg encSeal 4 w a es) :
    Calls Tryz.prog 29 #[.agg #[a, .int .i64 st, .int .i64 y0, .int .i64 y1, .string y2, .string y3], .int .i64 k] w fun e w' => (∃ r : Int, e = .returned (.int .i64 r) ∧ (r < 0 ∨ 0 ≤ r ∧ r + ((es.length + used szSealN es + szSealN ⟨y0, y1, y2, y3⟩ : Nat) : Int) = (k : Int))) ∧ Below w.heap.size w w' := by
  have H3 := hid ha
  have S0 := hid s0
  have N0 := hid n0
  obtain ⟨p, c, rfl, t3⟩ := ha
  clear t3 s0 n0
  obtain ⟨W0, hW0⟩ : ∃ W0, W0 = w.alloc (.cells #[.slice p es.length c, .int .i64 st, .int .i64 y0, .int .i64 y1, .string y2, .string y3] 32) := ⟨_, rfl⟩
  have HB0 : Hid (Below w.heap.size w W0) := hid (by rw [hW0]; exact (Below.refl _ _).alloc (Nat.le_refl _) _)
  have HC0 : Hid (W0.heap[w.heap.size]? = some (.cells #[.slice p es.length c, .int .i64 st, .int .i64 y0, .int .i64 y1, .string y2, .string y3] 32)) := hid (by rw [hW0]; exact heap_alloc_new _ _)
  have hz0 : w.heap.size < W0.heap.size := by rw [hW0]; simp
  have HW0 := hid hW0
  clear hW0
  go_enter Tryz.func29, Tryz.ntmps29
  go_wp2_with (go_at_call 82; rw [← HW0.out]; refine (sz_Seals es S0.out N0.out k hk _ _ (H3.out.on HB0.out)).mono ?_; rintro e w1 ⟨⟨r3, rfl, hr3⟩, hb1⟩; refine Hid.out ?_)
  refine hid ?_
  have HB1 := hid (HB0.out.trans (hb1.mono HB0.out.size))
  have HC1 := hid ((hb1.block _ (by omega)).trans HC0.out)
  have hz1 := hb1.size
  clear hb1
  have k0 := (cell_of_row _ _ 0 _ _ _ HC1.out).trans rfl
  have k1 := (cell_of_row _ _ 1 _ _ _ HC1.out).trans rfl
  have k2 := (cell_of_row _ _ 2 _ _ _ HC1.out).trans rfl
  have k3 := (cell_of_row _ _ 3 _ _ _ HC1.out).trans rfl
  have k4 := (cell_of_row _ _ 4 _ _ _ HC1.out).trans rfl
  have k5 := (cell_of_row _ _ 5 _ _ _ HC1.out).trans rfl
  rcases hr3 with hr3 | ⟨hr3, ht3⟩
  · go_wp2
    go_ret
    exact ⟨⟨-1, rfl, Or.inl (by omega)⟩, HB1.out⟩
  · obtain ⟨z3r, rfl⟩ := Int.eq_ofNat_of_zero_le hr3
    have hn3r : ¬ ((z3r : Nat) : Int) < 0 := by omega
    have HT3 := hid ht3
    clear ht3
    have hk3r : z3r ≤ 1048576 := by have := HT3.out; omega
    have CP := hid (fun W => sz_Seal y0 y1 y2 y3 z2 z3 (z3r : Int) (by omega) (by omega) W)
    clear z2 z3
    go_wp2_with (go_at_call 83; refine (CP.out _).mono ?_; rintro e w2 ⟨⟨r4, rfl, hr4⟩, hb2⟩; refine Hid.out ?_)
    refine hid ?_
    have HB2 := hid (HB1.out.trans (hb2.mono HB1.out.size))
    clear hb2 k0 k1 k2 k3 k4 k5
    rcases hr4 with hr4 | ⟨hr4, ht4⟩
    · go_wp2
      go_ret
      exact ⟨⟨-1, rfl, Or.inl (by omega)⟩, HB2.out⟩
    · have hn4r : ¬ r4 < 0 := by omega
      go_wp2
      go_ret
      exact ⟨⟨_, rfl, Or.inr ⟨by omega, by have := HT3.out; omega⟩⟩, HB2.out⟩

set_option maxRecDepth 20000 in
set_option maxHeartbeats 4000000 in
theorem to_Vault (es : List SealD) (st y0 y1 : Int) (y2 y3 : ByteArray) (n0 : es.length ≤ 1048576) (a : Value) (w : World) (ha : FArg encSeal 4 w a es) :
    Calls Tryz.prog 38 #[.agg #[a, .int .i64 st, .int .i64 y0, .int .i64 y1, .string y2, .string y3]] w fun e w' => ∃ v, e = .returned (.agg #[v, .int .i64 st, .int .i64 y0, .int .i64 y1, .string y2, .string y3]) ∧ Below w.heap.size w w' ∧ w'.ownsRow w.heap.size 43 4 v es.length (flat encSeal es) := by
  have H3 := hid ha
  obtain ⟨p, c, rfl, t3⟩ := ha
  clear t3
  obtain ⟨W0, hW0⟩ : ∃ W0, W0 = ((w.alloc (.cells #[.slice p es.length c, .int .i64 st, .int .i64 y0, .int .i64 y1, .string y2, .string y3] 32)).alloc (.cells #[.slice none 0 0, .int .i64 0, .int .i64 0, .int .i64 0, .string ⟨#[]⟩, .string ⟨#[]⟩] 45)).alloc (.cells #[.slice none 0 0, .int .i64 0, .int .i64 0, .int .i64 0, .string ⟨#[]⟩, .string ⟨#[]⟩] 45) := ⟨_, rfl⟩
  have K0 : Hid (Below w.heap.size w W0) := hid (by rw [hW0]; exact (((Below.refl _ _).alloc (Nat.le_refl _) _).alloc (by simp) _).alloc (by simp; omega) _)
  have V0 : Hid (W0.heap[w.heap.size]? = some (.cells #[.slice p es.length c, .int .i64 st, .int .i64 y0, .int .i64 y1, .string y2, .string y3] 32)) := hid (by rw [hW0]; exact st_first _ _ _)
  have R0 : Hid (W0.heap[w.heap.size + 1]? = some (.cells #[.slice none 0 0, .int .i64 0, .int .i64 0, .int .i64 0, .string ⟨#[]⟩, .string ⟨#[]⟩] 45)) := hid (by rw [hW0]; exact st_mid _ _ _)
  have O0 : Hid (W0.heap[w.heap.size + 1 + 1]? = some (.cells #[.slice none 0 0, .int .i64 0, .int .i64 0, .int .i64 0, .string ⟨#[]⟩, .string ⟨#[]⟩] 45)) := hid (by rw [hW0]; exact st_last _ _ _)
  have hz0 : w.heap.size + 1 + 1 < W0.heap.size := by rw [hW0]; simp
  have HW0 := hid hW0
  clear hW0
  go_enter Tryz.func38, Tryz.ntmps38
  go_wp2_with (go_at_call 95; rw [← HW0.out]; refine (to_Seals es n0 _ _ (H3.out.on K0.out)).mono ?_; rintro e w1 ⟨rfl, hb1, ho3⟩; refine Hid.out ?_)
  refine hid ?_
  have K1 := hid (st_below K0.out (Nat.le_refl _) hb1)
  have V1 := hid ((hb1.block _ (by omega)).trans V0.out)
  have R1 := hid ((hb1.block _ (by omega)).trans R0.out)
  have O1 := hid ((hb1.block _ (by omega)).trans O0.out)
  have G3 := hid ho3
  have L3 := hid ho3.lt
  have hz1 : w.heap.size + 1 + 1 < w1.heap.size := Nat.lt_of_lt_of_le hz0 hb1.size
  clear hb1 ho3
  have hne1 : (.slice (some ⟨W0.heap.size, 0, none⟩) es.length es.length : Value).ownBlock ≠ some (w.heap.size + 1 + 1) := fun e => by have := (L3.out _ e).1; omega
  have hne2 : (.slice (some ⟨W0.heap.size, 0, none⟩) es.length es.length : Value).ownBlock ≠ some (w.heap.size + 1) := fun e => by have := (L3.out _ e).1; omega
  obtain ⟨W2, hW2⟩ : ∃ W2, W2 = (w1.setCell ⟨w.heap.size + 1 + 1, 0, none⟩ (.slice (some ⟨W0.heap.size, 0, none⟩) es.length es.length)).setCell ⟨w.heap.size + 1 + 1, 1, none⟩ (.int .i64 st) := ⟨_, rfl⟩
  have K2 : Hid (Below w.heap.size w W2) := hid (by rw [hW2]; exact (K1.out.setCell (p := ⟨w.heap.size + 1 + 1, 0, none⟩) (by show w.heap.size ≤ w.heap.size + 1 + 1; omega) _).setCell (p := ⟨w.heap.size + 1 + 1, 1, none⟩) (by show w.heap.size ≤ w.heap.size + 1 + 1; omega) _)
  have KO : Hid (Below (w.heap.size + 1 + 1) w1 W2) := hid (by rw [hW2]; exact ((Below.refl _ _).setCell (p := ⟨w.heap.size + 1 + 1, 0, none⟩) (Nat.le_refl _) _).setCell (p := ⟨w.heap.size + 1 + 1, 1, none⟩) (Nat.le_refl _) _)
  have V2 := hid ((KO.out.block _ (by omega)).trans V1.out)
  have R2 := hid ((KO.out.block _ (by omega)).trans R1.out)
  have O2 : Hid (W2.heap[w.heap.size + 1 + 1]? = some (.cells #[.slice (some ⟨W0.heap.size, 0, none⟩) es.length es.length, .int .i64 st, .int .i64 0, .int .i64 0, .string ⟨#[]⟩, .string ⟨#[]⟩] 45)) := hid (by rw [hW2]; exact heap_setCell_same _ _ 1 _ _ (.int .i64 st) (heap_setCell_same w1 _ 0 _ _ (.slice (some ⟨W0.heap.size, 0, none⟩) es.length es.length) O1.out))
  have G2 : Hid (W2.ownsRow w.heap.size 43 4 (.slice (some ⟨W0.heap.size, 0, none⟩) es.length es.length) es.length (flat encSeal es)) := hid (by rw [hW2]; exact ownsRow_setCell_other (ownsRow_setCell_other (st_lower G3.out (by first | exact Nat.le_refl _ | omega)) (a := ⟨w.heap.size + 1 + 1, 0, none⟩) hne1 _) (a := ⟨w.heap.size + 1 + 1, 1, none⟩) hne1 _)
  have hz2 : W2.heap.size = w1.heap.size := by rw [hW2]; simp
  have HW2 := hid hW2
  have k0 := (cell_of_row _ _ 0 _ _ _ V1.out).trans rfl
  have k1 := (cell_of_row _ _ 1 _ _ _ V1.out).trans rfl
  have k2 := (cell_of_row _ _ 2 _ _ _ V1.out).trans rfl
  have k3 := (cell_of_row _ _ 3 _ _ _ V1.out).trans rfl
  have k4 := (cell_of_row _ _ 4 _ _ _ V1.out).trans rfl
  have k5 := (cell_of_row _ _ 5 _ _ _ V1.out).trans rfl
  have j0 := (cell_of_row _ _ 0 _ _ _ O1.out).trans rfl
  have j1 := (cell_of_row _ _ 1 _ _ _ O1.out).trans rfl
  have j2 := (cell_of_row _ _ 2 _ _ _ O1.out).trans rfl
  have j3 := (cell_of_row _ _ 3 _ _ _ O1.out).trans rfl
  have j4 := (cell_of_row _ _ 4 _ _ _ O1.out).trans rfl
  have j5 := (cell_of_row _ _ 5 _ _ _ O1.out).trans rfl
  have f0 := st_thaw O1.out 0
  have f1 := st_thaw O1.out 1
  have f2 := st_thaw O1.out 2
  have f3 := st_thaw O1.out 3
  have f4 := st_thaw O1.out 4
  have f5 := st_thaw O1.out 5
  clear hW2
  go_wp2_with (go_at_call 96; rw [← HW2.out]; refine (to_Seal y0 y1 y2 y3 _).mono ?_; rintro e w3 ⟨rfl, hb3⟩; refine Hid.out ?_)
  refine hid ?_
  have K3 := hid (K2.out.trans (hb3.mono K2.out.size))
  have R3 := hid ((hb3.block _ (by omega)).trans R2.out)
  have O3 := hid ((hb3.block _ (by omega)).trans O2.out)
  have G4 := hid (own_below G2.out hb3)
  clear hb3 k0 k1 k2 k3 k4 k5 j0 j1 j2 j3 j4 j5 f0 f1 f2 f3 f4 f5
  have j0 := (cell_of_row _ _ 0 _ _ _ O3.out).trans rfl
  have j1 := (cell_of_row _ _ 1 _ _ _ O3.out).trans rfl
  have j2 := (cell_of_row _ _ 2 _ _ _ O3.out).trans rfl
  have j3 := (cell_of_row _ _ 3 _ _ _ O3.out).trans rfl
  have j4 := (cell_of_row _ _ 4 _ _ _ O3.out).trans rfl
  have j5 := (cell_of_row _ _ 5 _ _ _ O3.out).trans rfl
  have f0 := st_thaw O3.out 0
  have f1 := st_thaw O3.out 1
  have f2 := st_thaw O3.out 2
  have f3 := st_thaw O3.out 3
  have f4 := st_thaw O3.out 4
  have f5 := st_thaw O3.out 5
  have r0 := (cell_of_row _ _ 0 _ _ _ R3.out).trans rfl
  have r1 := (cell_of_row _ _ 1 _ _ _ R3.out).trans rfl
  have r2 := (cell_of_row _ _ 2 _ _ _ R3.out).trans rfl
  have r3 := (cell_of_row _ _ 3 _ _ _ R3.out).trans rfl
  have r4 := (cell_of_row _ _ 4 _ _ _ R3.out).trans rfl
  have r5 := (cell_of_row _ _ 5 _ _ _ R3.out).trans rfl
  have g0 := st_thaw R3.out 0
  have g1 := st_thaw R3.out 1
  have g2 := st_thaw R3.out 2
  have g3 := st_thaw R3.out 3
  have g4 := st_thaw R3.out 4
  have g5 := st_thaw R3.out 5
  go_wp2
  refine bodyPost_ret (v := .agg #[.slice (some ⟨W0.heap.size, 0, none⟩) es.length es.length, .int .i64 st, .int .i64 y0, .int .i64 y1, .string y2, .string y3]) (by simp [results, Tryz.results38, go_sem, r0, r1, r2, r3, r4, r5]) rfl ⟨.slice (some ⟨W0.heap.size, 0, none⟩) es.length es.length, rfl, ?_, ?_⟩
  · exact ((((((((((K3.out.setCell (p := ⟨w.heap.size + 1 + 1, 2, none⟩) (by show w.heap.size ≤ w.heap.size + 1 + 1; omega) _).setCell (p := ⟨w.heap.size + 1 + 1, 3, none⟩) (by show w.heap.size ≤ w.heap.size + 1 + 1; omega) _).setCell (p := ⟨w.heap.size + 1 + 1, 4, none⟩) (by show w.heap.size ≤ w.heap.size + 1 + 1; omega) _).setCell (p := ⟨w.heap.size + 1 + 1, 5, none⟩) (by show w.heap.size ≤ w.heap.size + 1 + 1; omega) _).setCell (p := ⟨w.heap.size + 1, 0, none⟩) (by show w.heap.size ≤ w.heap.size + 1; omega) _).setCell (p := ⟨w.heap.size + 1, 1, none⟩) (by show w.heap.size ≤ w.heap.size + 1; omega) _).setCell (p := ⟨w.heap.size + 1, 2, none⟩) (by show w.heap.size ≤ w.heap.size + 1; omega) _).setCell (p := ⟨w.heap.size + 1, 3, none⟩) (by show w.heap.size ≤ w.heap.size + 1; omega) _).setCell (p := ⟨w.heap.size + 1, 4, none⟩) (by show w.heap.size ≤ w.heap.size + 1; omega) _).setCell (p := ⟨w.heap.size + 1, 5, none⟩) (by show w.heap.size ≤ w.heap.size + 1; omega) _)
  · exact (ownsRow_setCell_other (ownsRow_setCell_other (ownsRow_setCell_other (ownsRow_setCell_other (ownsRow_setCell_other (ownsRow_setCell_other (ownsRow_setCell_other (ownsRow_setCell_other (ownsRow_setCell_other (ownsRow_setCell_other G4.out (a := ⟨w.heap.size + 1 + 1, 2, none⟩) hne1 _) (a := ⟨w.heap.size + 1 + 1, 3, none⟩) hne1 _) (a := ⟨w.heap.size + 1 + 1, 4, none⟩) hne1 _) (a := ⟨w.heap.size + 1 + 1, 5, none⟩) hne1 _) (a := ⟨w.heap.size + 1, 0, none⟩) hne2 _) (a := ⟨w.heap.size + 1, 1, none⟩) hne2 _) (a := ⟨w.heap.size + 1, 2, none⟩) hne2 _) (a := ⟨w.heap.size + 1, 3, none⟩) hne2 _) (a := ⟨w.heap.size + 1, 4, none⟩) hne2 _) (a := ⟨w.heap.size + 1, 5, none⟩) hne2 _)
end Go.Proofs.YtnkaabgjfdbdoaaGreatDoor
