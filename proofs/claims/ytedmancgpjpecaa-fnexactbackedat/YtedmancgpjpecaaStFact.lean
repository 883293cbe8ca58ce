/- The helpers of the laws on a Fact: its size, a copy, two held against each other. Written by a program of ours out of the fields. -/
import Derived.Test.YtedmancgpjpecaaStructKit
import Derived.Test.YtedmancgpjpecaaRowImage
namespace Go.Proofs.Ytedmancgpjpecaa
open Go.RowKit
open Go.Lib (hid)

set_option maxRecDepth 20000 in
set_option maxHeartbeats 2000000 in
theorem sz_Fact (x0 : Int) (x1 : Int) (x2 : Int) (x3 : ByteArray) (l4 : List ImageD) (x5 : Bool) (z3 : x3.size ≤ 9223372036854775807) (s4 : ∀ e ∈ l4, tameImage e) (n4 : l4.length ≤ maxLen) (k : Nat) (hk : k ≤ 1048576) (a4 : Value) (w : World) (h4 : FArg encImage 2 w a4 l4) :
    Calls Try.prog 34 #[.agg #[.int .i64 x0, .int .i64 x1, .int .i64 x2, .string x3, a4, .bool x5], .int .i64 k] w fun e w' => (∃ r : Int, e = .returned (.int .i64 r) ∧ (r < 0 ∨ 0 ≤ r ∧ r + ((x3.size + (l4.length + used szImageN l4) : Nat) : Int) = (k : Int))) ∧ Below w.heap.size w w' := by
  have H4 := hid h4
  have S4 := hid s4
  have M4 := hid n4
  obtain ⟨p4, c4, rfl, t4⟩ := h4
  clear t4
  clear s4 n4
  obtain ⟨W0, hW0⟩ : ∃ W0, W0 = w.alloc (.cells #[.int .i64 x0, .int .i64 x1, .int .i64 x2, .string x3, .slice p4 l4.length c4, .bool x5] 45) := ⟨_, rfl⟩
  have HB0 : Hid (Below w.heap.size w W0) := hid (by rw [hW0]; exact (Below.refl _ _).alloc (Nat.le_refl _) _)
  have HC0 : Hid (W0.heap[w.heap.size]? = some (.cells #[.int .i64 x0, .int .i64 x1, .int .i64 x2, .string x3, .slice p4 l4.length c4, .bool x5] 45)) := hid (by rw [hW0]; exact heap_alloc_new _ _)
  have hz0 : w.heap.size < W0.heap.size := by rw [hW0]; simp
  have HW0 := hid hW0
  clear hW0
  go_enter Try.func34, Try.ntmps34
  by_cases g3 : x3.size ≤ k
  · have d3 : ¬ (k : Int) - (x3.size : Int) < 0 := by omega
    have CZ4 := hid (fun a W hW => sz_Images l4 S4.out M4.out (k - x3.size) (by omega) a W hW)
    rw [show (((k - x3.size) : Nat) : Int) = (k : Int) - (x3.size : Int) by omega] at CZ4
    go_wp2_with (go_at_call 15; rw [← HW0.out]; refine (CZ4.out _ _ (H4.out.on HB0.out)).mono ?_; rintro e w1 ⟨⟨r4, rfl, hr4⟩, hb1⟩; refine Hid.out ?_)
    refine hid ?_
    have HB1 := hid (HB0.out.trans (hb1.mono HB0.out.size))
    have HC1 := hid ((hb1.block _ (by omega)).trans HC0.out)
    have hz1 := hb1.size
    clear hb1
    have k0 := (cell_of_row _ _ 0 _ _ _ HC1.out).trans rfl
    have k1 := (cell_of_row _ _ 1 _ _ _ HC1.out).trans rfl
    have k2 := (cell_of_row _ _ 2 _ _ _ HC1.out).trans rfl
    have k3 := (cell_of_row _ _ 3 _ _ _ HC1.out).trans rfl
    have k4 := (cell_of_row _ _ 4 _ _ _ HC1.out).trans rfl
    have k5 := (cell_of_row _ _ 5 _ _ _ HC1.out).trans rfl
    rcases hr4 with hr4 | ⟨hr4, ht4⟩
    · skip
      go_wp2
      go_ret
      exact ⟨⟨-1, rfl, Or.inl (by omega)⟩, HB1.out⟩
    · obtain ⟨z4r, rfl⟩ := Int.eq_ofNat_of_zero_le hr4
      have hn4r : ¬ ((z4r : Nat) : Int) < 0 := by omega
      have HT4 := hid ht4
      clear ht4
      have hk4r : z4r ≤ 1048576 := by have := HT4.out; omega
      go_wp2
      go_ret
      exact ⟨⟨_, rfl, Or.inr ⟨by omega, by have := HT4.out; omega⟩⟩, HB1.out⟩
  · have d3 : (k : Int) - (x3.size : Int) < 0 := by omega
    go_wp2
    go_ret
    rw [← HW0.out]
    exact ⟨⟨-1, rfl, Or.inl (by omega)⟩, HB0.out⟩


set_option maxRecDepth 20000 in
set_option maxHeartbeats 2000000 in
theorem to_Fact (x0 : Int) (x1 : Int) (x2 : Int) (x3 : ByteArray) (l4 : List ImageD) (x5 : Bool) (n4 : l4.length ≤ 1048576) (a4 : Value) (w : World) (h4 : FArg encImage 2 w a4 l4) :
    Calls Try.prog 36 #[.agg #[.int .i64 x0, .int .i64 x1, .int .i64 x2, .string x3, a4, .bool x5]] w fun e w' => ∃ v4, e = .returned (.agg #[.int .i64 x0, .int .i64 x1, .int .i64 x2, .string x3, v4, .bool x5]) ∧ Below w.heap.size w w' ∧ w'.ownsRow w.heap.size 62 2 (v4) l4.length (flat encImage l4) := by
  have H4 := hid h4
  obtain ⟨p4, c4, rfl, t4⟩ := h4
  clear t4
  obtain ⟨W0, hW0⟩ : ∃ W0, W0 = ((w.alloc (.cells #[.int .i64 x0, .int .i64 x1, .int .i64 x2, .string x3, .slice p4 l4.length c4, .bool x5] 45)).alloc (.cells #[.int .i64 0, .int .i64 0, .int .i64 0, .string ⟨#[]⟩, .slice none 0 0, .bool false] 47)).alloc (.cells #[.int .i64 x0, .int .i64 x1, .int .i64 x2, .string x3, .slice none 0 0, .bool false] 47) := ⟨_, rfl⟩
  have K0 : Hid (Below w.heap.size w W0) := hid (by rw [hW0]; exact (((Below.refl _ _).alloc (Nat.le_refl _) _).alloc (by simp) _).alloc (by simp; omega) _)
  have V0 : Hid (W0.heap[w.heap.size]? = some (.cells #[.int .i64 x0, .int .i64 x1, .int .i64 x2, .string x3, .slice p4 l4.length c4, .bool x5] 45)) := hid (by rw [hW0]; exact st_first _ _ _)
  have R0 : Hid (W0.heap[w.heap.size + 1]? = some (.cells #[.int .i64 0, .int .i64 0, .int .i64 0, .string ⟨#[]⟩, .slice none 0 0, .bool false] 47)) := hid (by rw [hW0]; exact st_mid _ _ _)
  have O0 : Hid (W0.heap[w.heap.size + 1 + 1]? = some (.cells #[.int .i64 x0, .int .i64 x1, .int .i64 x2, .string x3, .slice none 0 0, .bool false] 47)) := hid (by rw [hW0]; exact st_last _ _ _)
  have hz0 : w.heap.size + 1 + 1 < W0.heap.size := by rw [hW0]; simp
  have HW0 := hid hW0
  clear hW0
  go_enter Try.func36, Try.ntmps36
  go_wp2_with (go_at_call 17; rw [← HW0.out]; refine (to_Images l4 n4 _ _ (H4.out.on K0.out)).mono ?_; rintro e w1 ⟨rfl, hb1, ho4⟩; refine Hid.out ?_)
  refine hid ?_
  have HSB1 := hid hb1.size
  have K1 := hid (st_below K0.out (Nat.le_refl _) hb1)
  have V1 := hid ((hb1.block _ (by omega)).trans V0.out)
  have R1 := hid ((hb1.block _ (by omega)).trans R0.out)
  have O1 := hid ((hb1.block _ (by omega)).trans O0.out)
  have G4_1 := hid ho4
  have L4 := hid ho4.lt
  have hz1 : w.heap.size + 1 + 1 < w1.heap.size := Nat.lt_of_lt_of_le hz0 hb1.size
  clear hb1 ho4
  have k0 := (cell_of_row _ _ 0 _ _ _ V1.out).trans rfl
  have k1 := (cell_of_row _ _ 1 _ _ _ V1.out).trans rfl
  have k2 := (cell_of_row _ _ 2 _ _ _ V1.out).trans rfl
  have k3 := (cell_of_row _ _ 3 _ _ _ V1.out).trans rfl
  have k4 := (cell_of_row _ _ 4 _ _ _ V1.out).trans rfl
  have k5 := (cell_of_row _ _ 5 _ _ _ V1.out).trans rfl
  have j0 := (cell_of_row _ _ 0 _ _ _ O1.out).trans rfl
  have j1 := (cell_of_row _ _ 1 _ _ _ O1.out).trans rfl
  have j2 := (cell_of_row _ _ 2 _ _ _ O1.out).trans rfl
  have j3 := (cell_of_row _ _ 3 _ _ _ O1.out).trans rfl
  have j4 := (cell_of_row _ _ 4 _ _ _ O1.out).trans rfl
  have j5 := (cell_of_row _ _ 5 _ _ _ O1.out).trans rfl
  have f0 := st_thaw O1.out 0
  have f1 := st_thaw O1.out 1
  have f2 := st_thaw O1.out 2
  have f3 := st_thaw O1.out 3
  have f4 := st_thaw O1.out 4
  have f5 := st_thaw O1.out 5
  have r0 := (cell_of_row _ _ 0 _ _ _ R1.out).trans rfl
  have r1 := (cell_of_row _ _ 1 _ _ _ R1.out).trans rfl
  have r2 := (cell_of_row _ _ 2 _ _ _ R1.out).trans rfl
  have r3 := (cell_of_row _ _ 3 _ _ _ R1.out).trans rfl
  have r4 := (cell_of_row _ _ 4 _ _ _ R1.out).trans rfl
  have r5 := (cell_of_row _ _ 5 _ _ _ R1.out).trans rfl
  have g0 := st_thaw R1.out 0
  have g1 := st_thaw R1.out 1
  have g2 := st_thaw R1.out 2
  have g3 := st_thaw R1.out 3
  have g4 := st_thaw R1.out 4
  have g5 := st_thaw R1.out 5
  go_wp2
  refine bodyPost_ret (v := .agg #[.int .i64 x0, .int .i64 x1, .int .i64 x2, .string x3, .slice (some ⟨W0.heap.size, 0, none⟩) l4.length l4.length, .bool x5]) (by simp [results, Try.results36, go_sem, r0, r1, r2, r3, r4, r5]) rfl ⟨.slice (some ⟨W0.heap.size, 0, none⟩) l4.length l4.length, rfl, ?_, ?_⟩
  · exact ((((((((K1.out.setCell (p := ⟨w.heap.size + 1 + 1, 4, none⟩) (by show w.heap.size ≤ w.heap.size + 1 + 1; omega) _).setCell (p := ⟨w.heap.size + 1 + 1, 5, none⟩) (by show w.heap.size ≤ w.heap.size + 1 + 1; omega) _).setCell (p := ⟨w.heap.size + 1, 0, none⟩) (by show w.heap.size ≤ w.heap.size + 1; omega) _).setCell (p := ⟨w.heap.size + 1, 1, none⟩) (by show w.heap.size ≤ w.heap.size + 1; omega) _).setCell (p := ⟨w.heap.size + 1, 2, none⟩) (by show w.heap.size ≤ w.heap.size + 1; omega) _).setCell (p := ⟨w.heap.size + 1, 3, none⟩) (by show w.heap.size ≤ w.heap.size + 1; omega) _).setCell (p := ⟨w.heap.size + 1, 4, none⟩) (by show w.heap.size ≤ w.heap.size + 1; omega) _).setCell (p := ⟨w.heap.size + 1, 5, none⟩) (by show w.heap.size ≤ w.heap.size + 1; omega) _)
  · have hne1 : (.slice (some ⟨W0.heap.size, 0, none⟩) l4.length l4.length : Value).ownBlock ≠ some (w.heap.size + 1 + 1) := fun e => by have := (L4.out _ e).1; omega
    have hne2 : (.slice (some ⟨W0.heap.size, 0, none⟩) l4.length l4.length : Value).ownBlock ≠ some (w.heap.size + 1) := fun e => by have := (L4.out _ e).1; omega
    exact (ownsRow_setCell_other (ownsRow_setCell_other (ownsRow_setCell_other (ownsRow_setCell_other (ownsRow_setCell_other (ownsRow_setCell_other (ownsRow_setCell_other (ownsRow_setCell_other (st_lower G4_1.out (by first | exact Nat.le_refl _ | omega)) (a := ⟨w.heap.size + 1 + 1, 4, none⟩) hne1 _) (a := ⟨w.heap.size + 1 + 1, 5, none⟩) hne1 _) (a := ⟨w.heap.size + 1, 0, none⟩) hne2 _) (a := ⟨w.heap.size + 1, 1, none⟩) hne2 _) (a := ⟨w.heap.size + 1, 2, none⟩) hne2 _) (a := ⟨w.heap.size + 1, 3, none⟩) hne2 _) (a := ⟨w.heap.size + 1, 4, none⟩) hne2 _) (a := ⟨w.heap.size + 1, 5, none⟩) hne2 _)


set_option maxRecDepth 20000 in
set_option maxHeartbeats 2000000 in
theorem eq_Fact (x0 : Int) (x1 : Int) (x2 : Int) (x3 : ByteArray) (l4 : List ImageD) (x5 : Bool) (n4 : l4.length ≤ 100000000) (a4 b4 : Value) (w : World) (h4 : FRow encImage 2 w a4 l4) (i4 : FRow encImage 2 w b4 l4) :
    Calls Try.prog 40 #[.agg #[.int .i64 x0, .int .i64 x1, .int .i64 x2, .string x3, a4, .bool x5], .agg #[.int .i64 x0, .int .i64 x1, .int .i64 x2, .string x3, b4, .bool x5]] w fun e w' => e = .returned (.bool true) ∧ Below w.heap.size w w' := by
  have HA4 := hid h4
  have HI4 := hid i4
  obtain ⟨p4, c4, rfl, _, _⟩ := h4
  obtain ⟨q4, d4, rfl, _, _⟩ := i4
  obtain ⟨W0, hW0⟩ : ∃ W0, W0 = (w.alloc (.cells #[.int .i64 x0, .int .i64 x1, .int .i64 x2, .string x3, .slice p4 l4.length c4, .bool x5] 47)).alloc (.cells #[.int .i64 x0, .int .i64 x1, .int .i64 x2, .string x3, .slice q4 l4.length d4, .bool x5] 47) := ⟨_, rfl⟩
  have K0 : Hid (Below w.heap.size w W0) := hid (by rw [hW0]; exact ((Below.refl _ _).alloc (Nat.le_refl _) _).alloc (by simp) _)
  have V0 : Hid (W0.heap[w.heap.size]? = some (.cells #[.int .i64 x0, .int .i64 x1, .int .i64 x2, .string x3, .slice p4 l4.length c4, .bool x5] 47)) := hid (by rw [hW0]; exact st_one _ _)
  have U0 : Hid (W0.heap[w.heap.size + 1]? = some (.cells #[.int .i64 x0, .int .i64 x1, .int .i64 x2, .string x3, .slice q4 l4.length d4, .bool x5] 47)) := hid (by rw [hW0]; exact st_two _ _)
  have hz0 : w.heap.size + 1 < W0.heap.size := by rw [hW0]; simp
  have hy3 : (x3.toList == x3.toList) = true := by simp
  have hn3 : (x3.toList != x3.toList) = false := by simp
  have hn5 : (x5 != x5) = false := by cases x5 <;> rfl
  have HW0 := hid hW0
  clear hW0
  go_enter Try.func40, Try.ntmps40
  go_wp2_with (go_at_call 19; rw [← HW0.out]; refine (eq_Images l4 n4 _ _ _ (HA4.out.on K0.out) (HI4.out.on K0.out)).mono ?_; rintro e w1 ⟨rfl, hb1⟩; refine Hid.out ?_)
  refine hid ?_
  have K1 := hid (st_below K0.out (Nat.le_refl _) hb1)
  have V1 := hid ((hb1.block _ (by omega)).trans V0.out)
  have U1 := hid ((hb1.block _ (by omega)).trans U0.out)
  have hz1 := hb1.size
  clear hb1
  have k0 := (cell_of_row _ _ 0 _ _ _ V1.out).trans rfl
  have k1 := (cell_of_row _ _ 1 _ _ _ V1.out).trans rfl
  have k2 := (cell_of_row _ _ 2 _ _ _ V1.out).trans rfl
  have k3 := (cell_of_row _ _ 3 _ _ _ V1.out).trans rfl
  have k4 := (cell_of_row _ _ 4 _ _ _ V1.out).trans rfl
  have k5 := (cell_of_row _ _ 5 _ _ _ V1.out).trans rfl
  have j0 := (cell_of_row _ _ 0 _ _ _ U1.out).trans rfl
  have j1 := (cell_of_row _ _ 1 _ _ _ U1.out).trans rfl
  have j2 := (cell_of_row _ _ 2 _ _ _ U1.out).trans rfl
  have j3 := (cell_of_row _ _ 3 _ _ _ U1.out).trans rfl
  have j4 := (cell_of_row _ _ 4 _ _ _ U1.out).trans rfl
  have j5 := (cell_of_row _ _ 5 _ _ _ U1.out).trans rfl
  go_wp2
  go_ret
  exact ⟨rfl, K1.out⟩


end Go.Proofs.Ytedmancgpjpecaa
