/- The helpers of the laws on a Table: its size, a copy, two held against each other. Written by a program of ours out of the fields. -/
import Derived.Test.YtainpghedbhepaaDoorStructKit
import Derived.Test.YtainpghedbhepaaDoorRowNonce
namespace Go.Proofs.YtainpghedbhepaaDoor
open Go.RowKit
open Go.Lib (hid)

set_option maxRecDepth 20000 in
set_option maxHeartbeats 2000000 in
theorem sz_Table (x0 : ByteArray) (x1 : Int) (x2 : Int) (l3 : List NonceD) (z0 : x0.size ≤ 9223372036854775807) (n3 : l3.length ≤ maxLen) (k : Nat) (hk : k ≤ 1048576) (a3 : Value) (w : World) (h3 : FArg encNonce 2 w a3 l3) :
    Calls Tryd.prog 22 #[.agg #[.string x0, .int .i64 x1, .int .i64 x2, a3], .int .i64 k] w fun e w' => (∃ r : Int, e = .returned (.int .i64 r) ∧ (r < 0 ∨ 0 ≤ r ∧ r + ((x0.size + l3.length : Nat) : Int) = (k : Int))) ∧ Below w.heap.size w w' := by
  have H3 := hid h3
  have M3 := hid n3
  obtain ⟨p3, c3, rfl, t3⟩ := h3
  clear t3
  clear n3
  obtain ⟨W0, hW0⟩ : ∃ W0, W0 = w.alloc (.cells #[.string x0, .int .i64 x1, .int .i64 x2, .slice p3 l3.length c3] 47) := ⟨_, rfl⟩
  have HB0 : Hid (Below w.heap.size w W0) := hid (by rw [hW0]; exact (Below.refl _ _).alloc (Nat.le_refl _) _)
  have HC0 : Hid (W0.heap[w.heap.size]? = some (.cells #[.string x0, .int .i64 x1, .int .i64 x2, .slice p3 l3.length c3] 47)) := hid (by rw [hW0]; exact heap_alloc_new _ _)
  have hz0 : w.heap.size < W0.heap.size := by rw [hW0]; simp
  have HW0 := hid hW0
  clear hW0
  go_enter Tryd.func22, Tryd.ntmps22
  by_cases g0 : x0.size ≤ k
  · have d0 : ¬ (k : Int) - (x0.size : Int) < 0 := by omega
    have CZ3 := hid (fun a W hW => sz_Nonces l3 M3.out (k - x0.size) (by omega) a W hW)
    rw [show (((k - x0.size) : Nat) : Int) = (k : Int) - (x0.size : Int) by omega] at CZ3
    go_wp2_with (go_at_call 53; rw [← HW0.out]; refine (CZ3.out _ _ (H3.out.on HB0.out)).mono ?_; rintro e w1 ⟨⟨r3, rfl, hr3⟩, hb1⟩; refine Hid.out ?_)
    refine hid ?_
    have HB1 := hid (HB0.out.trans (hb1.mono HB0.out.size))
    have HC1 := hid ((hb1.block _ (by omega)).trans HC0.out)
    have hz1 := hb1.size
    clear hb1
    have k0 := (cell_of_row _ _ 0 _ _ _ HC1.out).trans rfl
    have k1 := (cell_of_row _ _ 1 _ _ _ HC1.out).trans rfl
    have k2 := (cell_of_row _ _ 2 _ _ _ HC1.out).trans rfl
    have k3 := (cell_of_row _ _ 3 _ _ _ HC1.out).trans rfl
    rcases hr3 with hr3 | ⟨hr3, ht3⟩
    · skip
      go_wp2
      go_ret
      exact ⟨⟨-1, rfl, Or.inl (by omega)⟩, HB1.out⟩
    · obtain ⟨z3r, rfl⟩ := Int.eq_ofNat_of_zero_le hr3
      have hn3r : ¬ ((z3r : Nat) : Int) < 0 := by omega
      have HT3 := hid ht3
      clear ht3
      have hk3r : z3r ≤ 1048576 := by have := HT3.out; omega
      go_wp2
      go_ret
      exact ⟨⟨_, rfl, Or.inr ⟨by omega, by have := HT3.out; omega⟩⟩, HB1.out⟩
  · have d0 : (k : Int) - (x0.size : Int) < 0 := by omega
    go_wp2
    go_ret
    rw [← HW0.out]
    exact ⟨⟨-1, rfl, Or.inl (by omega)⟩, HB0.out⟩


set_option maxRecDepth 20000 in
set_option maxHeartbeats 2000000 in
theorem to_Table (x0 : ByteArray) (x1 : Int) (x2 : Int) (l3 : List NonceD) (n3 : l3.length ≤ 1048576) (a3 : Value) (w : World) (h3 : FArg encNonce 2 w a3 l3) :
    Calls Tryd.prog 24 #[.agg #[.string x0, .int .i64 x1, .int .i64 x2, a3]] w fun e w' => ∃ v3, e = .returned (.agg #[.string x0, .int .i64 x1, .int .i64 x2, v3]) ∧ Below w.heap.size w w' ∧ w'.ownsRow w.heap.size 90 2 (v3) l3.length (flat encNonce l3) := by
  have H3 := hid h3
  obtain ⟨p3, c3, rfl, t3⟩ := h3
  clear t3
  obtain ⟨W0, hW0⟩ : ∃ W0, W0 = ((w.alloc (.cells #[.string x0, .int .i64 x1, .int .i64 x2, .slice p3 l3.length c3] 47)).alloc (.cells #[.string ⟨#[]⟩, .int .i64 0, .int .i64 0, .slice none 0 0] 52)).alloc (.cells #[.string x0, .int .i64 x1, .int .i64 x2, .slice none 0 0] 52) := ⟨_, rfl⟩
  have K0 : Hid (Below w.heap.size w W0) := hid (by rw [hW0]; exact (((Below.refl _ _).alloc (Nat.le_refl _) _).alloc (by simp) _).alloc (by simp; omega) _)
  have V0 : Hid (W0.heap[w.heap.size]? = some (.cells #[.string x0, .int .i64 x1, .int .i64 x2, .slice p3 l3.length c3] 47)) := hid (by rw [hW0]; exact st_first _ _ _)
  have R0 : Hid (W0.heap[w.heap.size + 1]? = some (.cells #[.string ⟨#[]⟩, .int .i64 0, .int .i64 0, .slice none 0 0] 52)) := hid (by rw [hW0]; exact st_mid _ _ _)
  have O0 : Hid (W0.heap[w.heap.size + 1 + 1]? = some (.cells #[.string x0, .int .i64 x1, .int .i64 x2, .slice none 0 0] 52)) := hid (by rw [hW0]; exact st_last _ _ _)
  have hz0 : w.heap.size + 1 + 1 < W0.heap.size := by rw [hW0]; simp
  have HW0 := hid hW0
  clear hW0
  go_enter Tryd.func24, Tryd.ntmps24
  go_wp2_with (go_at_call 55; rw [← HW0.out]; refine (to_Nonces l3 n3 _ _ (H3.out.on K0.out)).mono ?_; rintro e w1 ⟨rfl, hb1, ho3⟩; refine Hid.out ?_)
  refine hid ?_
  have K1 := hid (st_below K0.out (Nat.le_refl _) hb1)
  have V1 := hid ((hb1.block _ (by omega)).trans V0.out)
  have R1 := hid ((hb1.block _ (by omega)).trans R0.out)
  have O1 := hid ((hb1.block _ (by omega)).trans O0.out)
  have G3_1 := hid ho3
  have L3 := hid ho3.lt
  have hz1 : w.heap.size + 1 + 1 < w1.heap.size := Nat.lt_of_lt_of_le hz0 hb1.size
  clear hb1 ho3
  have k0 := (cell_of_row _ _ 0 _ _ _ V1.out).trans rfl
  have k1 := (cell_of_row _ _ 1 _ _ _ V1.out).trans rfl
  have k2 := (cell_of_row _ _ 2 _ _ _ V1.out).trans rfl
  have k3 := (cell_of_row _ _ 3 _ _ _ V1.out).trans rfl
  have j0 := (cell_of_row _ _ 0 _ _ _ O1.out).trans rfl
  have j1 := (cell_of_row _ _ 1 _ _ _ O1.out).trans rfl
  have j2 := (cell_of_row _ _ 2 _ _ _ O1.out).trans rfl
  have j3 := (cell_of_row _ _ 3 _ _ _ O1.out).trans rfl
  have f0 := st_thaw O1.out 0
  have f1 := st_thaw O1.out 1
  have f2 := st_thaw O1.out 2
  have f3 := st_thaw O1.out 3
  have r0 := (cell_of_row _ _ 0 _ _ _ R1.out).trans rfl
  have r1 := (cell_of_row _ _ 1 _ _ _ R1.out).trans rfl
  have r2 := (cell_of_row _ _ 2 _ _ _ R1.out).trans rfl
  have r3 := (cell_of_row _ _ 3 _ _ _ R1.out).trans rfl
  have g0 := st_thaw R1.out 0
  have g1 := st_thaw R1.out 1
  have g2 := st_thaw R1.out 2
  have g3 := st_thaw R1.out 3
  go_wp2
  refine bodyPost_ret (v := .agg #[.string x0, .int .i64 x1, .int .i64 x2, .slice (some ⟨W0.heap.size, 0, none⟩) l3.length l3.length]) (by simp [results, Tryd.results24, go_sem, r0, r1, r2, r3]) rfl ⟨.slice (some ⟨W0.heap.size, 0, none⟩) l3.length l3.length, rfl, ?_, ?_⟩
  · exact (((((K1.out.setCell (p := ⟨w.heap.size + 1 + 1, 3, none⟩) (by show w.heap.size ≤ w.heap.size + 1 + 1; omega) _).setCell (p := ⟨w.heap.size + 1, 0, none⟩) (by show w.heap.size ≤ w.heap.size + 1; omega) _).setCell (p := ⟨w.heap.size + 1, 1, none⟩) (by show w.heap.size ≤ w.heap.size + 1; omega) _).setCell (p := ⟨w.heap.size + 1, 2, none⟩) (by show w.heap.size ≤ w.heap.size + 1; omega) _).setCell (p := ⟨w.heap.size + 1, 3, none⟩) (by show w.heap.size ≤ w.heap.size + 1; omega) _)
  · have hne1 : (.slice (some ⟨W0.heap.size, 0, none⟩) l3.length l3.length : Value).ownBlock ≠ some (w.heap.size + 1 + 1) := fun e => by have := (L3.out _ e).1; omega
    have hne2 : (.slice (some ⟨W0.heap.size, 0, none⟩) l3.length l3.length : Value).ownBlock ≠ some (w.heap.size + 1) := fun e => by have := (L3.out _ e).1; omega
    exact (ownsRow_setCell_other (ownsRow_setCell_other (ownsRow_setCell_other (ownsRow_setCell_other (ownsRow_setCell_other (st_lower G3_1.out (by first | exact Nat.le_refl _ | omega)) (a := ⟨w.heap.size + 1 + 1, 3, none⟩) hne1 _) (a := ⟨w.heap.size + 1, 0, none⟩) hne2 _) (a := ⟨w.heap.size + 1, 1, none⟩) hne2 _) (a := ⟨w.heap.size + 1, 2, none⟩) hne2 _) (a := ⟨w.heap.size + 1, 3, none⟩) hne2 _)


set_option maxRecDepth 20000 in
set_option maxHeartbeats 2000000 in
theorem eq_Table (x0 : ByteArray) (x1 : Int) (x2 : Int) (l3 : List NonceD) (n3 : l3.length ≤ 100000000) (a3 b3 : Value) (w : World) (h3 : FRow encNonce 2 w a3 l3) (i3 : FRow encNonce 2 w b3 l3) :
    Calls Tryd.prog 26 #[.agg #[.string x0, .int .i64 x1, .int .i64 x2, a3], .agg #[.string x0, .int .i64 x1, .int .i64 x2, b3]] w fun e w' => e = .returned (.bool true) ∧ Below w.heap.size w w' := by
  have HA3 := hid h3
  have HI3 := hid i3
  obtain ⟨p3, c3, rfl, _, _⟩ := h3
  obtain ⟨q3, d3, rfl, _, _⟩ := i3
  obtain ⟨W0, hW0⟩ : ∃ W0, W0 = (w.alloc (.cells #[.string x0, .int .i64 x1, .int .i64 x2, .slice p3 l3.length c3] 52)).alloc (.cells #[.string x0, .int .i64 x1, .int .i64 x2, .slice q3 l3.length d3] 52) := ⟨_, rfl⟩
  have K0 : Hid (Below w.heap.size w W0) := hid (by rw [hW0]; exact ((Below.refl _ _).alloc (Nat.le_refl _) _).alloc (by simp) _)
  have V0 : Hid (W0.heap[w.heap.size]? = some (.cells #[.string x0, .int .i64 x1, .int .i64 x2, .slice p3 l3.length c3] 52)) := hid (by rw [hW0]; exact st_one _ _)
  have U0 : Hid (W0.heap[w.heap.size + 1]? = some (.cells #[.string x0, .int .i64 x1, .int .i64 x2, .slice q3 l3.length d3] 52)) := hid (by rw [hW0]; exact st_two _ _)
  have hz0 : w.heap.size + 1 < W0.heap.size := by rw [hW0]; simp
  have hy0 : (x0.toList == x0.toList) = true := by simp
  have hn0 : (x0.toList != x0.toList) = false := by simp
  have HW0 := hid hW0
  clear hW0
  go_enter Tryd.func26, Tryd.ntmps26
  go_wp2_with (go_at_call 57; rw [← HW0.out]; refine (eq_Nonces l3 n3 _ _ _ (HA3.out.on K0.out) (HI3.out.on K0.out)).mono ?_; rintro e w1 ⟨rfl, hb1⟩; refine Hid.out ?_)
  refine hid ?_
  have K1 := hid (st_below K0.out (Nat.le_refl _) hb1)
  have V1 := hid ((hb1.block _ (by omega)).trans V0.out)
  have U1 := hid ((hb1.block _ (by omega)).trans U0.out)
  have hz1 := hb1.size
  clear hb1
  have k0 := (cell_of_row _ _ 0 _ _ _ V1.out).trans rfl
  have k1 := (cell_of_row _ _ 1 _ _ _ V1.out).trans rfl
  have k2 := (cell_of_row _ _ 2 _ _ _ V1.out).trans rfl
  have k3 := (cell_of_row _ _ 3 _ _ _ V1.out).trans rfl
  have j0 := (cell_of_row _ _ 0 _ _ _ U1.out).trans rfl
  have j1 := (cell_of_row _ _ 1 _ _ _ U1.out).trans rfl
  have j2 := (cell_of_row _ _ 2 _ _ _ U1.out).trans rfl
  have j3 := (cell_of_row _ _ 3 _ _ _ U1.out).trans rfl
  go_wp2
  go_ret
  exact ⟨rfl, K1.out⟩


end Go.Proofs.YtainpghedbhepaaDoor
