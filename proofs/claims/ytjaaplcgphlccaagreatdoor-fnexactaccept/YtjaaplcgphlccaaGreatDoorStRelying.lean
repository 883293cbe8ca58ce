/- The helpers of the laws on a Relying: its size, a copy, two held against each other. Written by a program of ours out of the fields. -/
import Derived.Test.YtjaaplcgphlccaaGreatDoorStructKit
namespace Go.Proofs.YtjaaplcgphlccaaGreatDoor
open Go.RowKit
open Go.Lib (hid)

set_option maxRecDepth 20000 in
set_option maxHeartbeats 2000000 in
theorem sz_Relying (l0 : List (List UInt8)) (l1 : List (List UInt8)) (l2 : List (List UInt8)) (s0 : ∀ p ∈ l0, p.length ≤ 9223372036854775807) (n0 : l0.length ≤ 9223372036854775807) (s1 : ∀ p ∈ l1, p.length ≤ 9223372036854775807) (n1 : l1.length ≤ 9223372036854775807) (s2 : ∀ p ∈ l2, p.length ≤ 9223372036854775807) (n2 : l2.length ≤ 9223372036854775807) (k : Nat) (hk : k ≤ 1048576) (a0 : Value) (a1 : Value) (a2 : Value) (w : World) (h0 : ArgAt w a0 l0) (h1 : ArgAt w a1 l1) (h2 : ArgAt w a2 l2) :
    Calls Tryz.prog 5 #[.agg #[a0, a1, a2], .int .i64 k] w fun e w' => (∃ r : Int, e = .returned (.int .i64 r) ∧ (r < 0 ∨ 0 ≤ r ∧ r + (((l0.length + total l0) + (l1.length + total l1) + (l2.length + total l2) : Nat) : Int) = (k : Int))) ∧ Below w.heap.size w w' := by
  have H0 := hid h0
  have H1 := hid h1
  have H2 := hid h2
  have S0 := hid s0
  have S1 := hid s1
  have S2 := hid s2
  obtain ⟨p0, c0, rfl, t0⟩ := h0
  clear t0
  obtain ⟨p1, c1, rfl, t1⟩ := h1
  clear t1
  obtain ⟨p2, c2, rfl, t2⟩ := h2
  clear t2
  clear s0 s1 s2
  obtain ⟨W0, hW0⟩ : ∃ W0, W0 = w.alloc (.cells #[.slice p0 l0.length c0, .slice p1 l1.length c1, .slice p2 l2.length c2] 24) := ⟨_, rfl⟩
  have HB0 : Hid (Below w.heap.size w W0) := hid (by rw [hW0]; exact (Below.refl _ _).alloc (Nat.le_refl _) _)
  have HC0 : Hid (W0.heap[w.heap.size]? = some (.cells #[.slice p0 l0.length c0, .slice p1 l1.length c1, .slice p2 l2.length c2] 24)) := hid (by rw [hW0]; exact heap_alloc_new _ _)
  have hz0 : w.heap.size < W0.heap.size := by rw [hW0]; simp
  have HW0 := hid hW0
  clear hW0
  go_enter Tryz.func5, Tryz.ntmps5
  have CZ0 := hid (fun a W hW => sz_strs l0 S0.out n0 k (by omega) a W hW)
  go_wp2_with (go_at_call 19; rw [← HW0.out]; refine (CZ0.out _ _ (H0.out.on HB0.out)).mono ?_; rintro e w1 ⟨⟨r0, rfl, hr0⟩, hb1⟩; refine Hid.out ?_)
  refine hid ?_
  have HB1 := hid (HB0.out.trans (hb1.mono HB0.out.size))
  have HC1 := hid ((hb1.block _ (by omega)).trans HC0.out)
  have hz1 := hb1.size
  clear hb1
  have k0 := (cell_of_row _ _ 0 _ _ _ HC1.out).trans rfl
  have k1 := (cell_of_row _ _ 1 _ _ _ HC1.out).trans rfl
  have k2 := (cell_of_row _ _ 2 _ _ _ HC1.out).trans rfl
  rcases hr0 with hr0 | ⟨hr0, ht0⟩
  · skip
    go_wp2
    go_ret
    exact ⟨⟨-1, rfl, Or.inl (by omega)⟩, HB1.out⟩
  · obtain ⟨z0r, rfl⟩ := Int.eq_ofNat_of_zero_le hr0
    have hn0r : ¬ ((z0r : Nat) : Int) < 0 := by omega
    have HT0 := hid ht0
    clear ht0
    have hk0r : z0r ≤ 1048576 := by have := HT0.out; omega
    have CZ1 := hid (fun a W hW => sz_strs l1 S1.out n1 z0r (by omega) a W hW)
    go_wp2_with (go_at_call 19; refine (CZ1.out _ _ (H1.out.on HB1.out)).mono ?_; rintro e w2 ⟨⟨r1, rfl, hr1⟩, hb2⟩; refine Hid.out ?_)
    refine hid ?_
    have HB2 := hid (HB1.out.trans (hb2.mono HB1.out.size))
    have HC2 := hid ((hb2.block _ (by omega)).trans HC1.out)
    have hz2 := hb2.size
    clear hb2
    clear k0 k1 k2
    have k0 := (cell_of_row _ _ 0 _ _ _ HC2.out).trans rfl
    have k1 := (cell_of_row _ _ 1 _ _ _ HC2.out).trans rfl
    have k2 := (cell_of_row _ _ 2 _ _ _ HC2.out).trans rfl
    rcases hr1 with hr1 | ⟨hr1, ht1⟩
    · skip
      go_wp2
      go_ret
      exact ⟨⟨-1, rfl, Or.inl (by omega)⟩, HB2.out⟩
    · obtain ⟨z1r, rfl⟩ := Int.eq_ofNat_of_zero_le hr1
      have hn1r : ¬ ((z1r : Nat) : Int) < 0 := by omega
      have HT1 := hid ht1
      clear ht1
      have hk1r : z1r ≤ 1048576 := by have := HT1.out; omega
      have CZ2 := hid (fun a W hW => sz_strs l2 S2.out n2 z1r (by omega) a W hW)
      go_wp2_with (go_at_call 19; refine (CZ2.out _ _ (H2.out.on HB2.out)).mono ?_; rintro e w3 ⟨⟨r2, rfl, hr2⟩, hb3⟩; refine Hid.out ?_)
      refine hid ?_
      have HB3 := hid (HB2.out.trans (hb3.mono HB2.out.size))
      have HC3 := hid ((hb3.block _ (by omega)).trans HC2.out)
      have hz3 := hb3.size
      clear hb3
      clear k0 k1 k2
      have k0 := (cell_of_row _ _ 0 _ _ _ HC3.out).trans rfl
      have k1 := (cell_of_row _ _ 1 _ _ _ HC3.out).trans rfl
      have k2 := (cell_of_row _ _ 2 _ _ _ HC3.out).trans rfl
      rcases hr2 with hr2 | ⟨hr2, ht2⟩
      · skip
        go_wp2
        go_ret
        exact ⟨⟨-1, rfl, Or.inl (by omega)⟩, HB3.out⟩
      · obtain ⟨z2r, rfl⟩ := Int.eq_ofNat_of_zero_le hr2
        have hn2r : ¬ ((z2r : Nat) : Int) < 0 := by omega
        have HT2 := hid ht2
        clear ht2
        have hk2r : z2r ≤ 1048576 := by have := HT2.out; omega
        go_wp2
        go_ret
        exact ⟨⟨_, rfl, Or.inr ⟨by omega, by have := HT0.out; have := HT1.out; have := HT2.out; omega⟩⟩, HB3.out⟩


set_option maxRecDepth 20000 in
set_option maxHeartbeats 2000000 in
theorem to_Relying (l0 : List (List UInt8)) (l1 : List (List UInt8)) (l2 : List (List UInt8)) (n0 : l0.length ≤ 1048576) (n1 : l1.length ≤ 1048576) (n2 : l2.length ≤ 1048576) (a0 : Value) (a1 : Value) (a2 : Value) (w : World) (h0 : ArgAt w a0 l0) (h1 : ArgAt w a1 l1) (h2 : ArgAt w a2 l2) :
    Calls Tryz.prog 7 #[.agg #[a0, a1, a2]] w fun e w' => ∃ v0 v1 v2, e = .returned (.agg #[v0, v1, v2]) ∧ Below w.heap.size w w' ∧ w'.ownsRow w.heap.size 9 1 (v0) l0.length (strs l0) ∧ w'.ownsRow w.heap.size 9 1 (v1) l1.length (strs l1) ∧ w'.ownsRow w.heap.size 9 1 (v2) l2.length (strs l2) ∧ (∀ j k, v0.ownBlock = some j → v1.ownBlock = some k → j < k) ∧ (∀ j k, v0.ownBlock = some j → v2.ownBlock = some k → j < k) ∧ (∀ j k, v1.ownBlock = some j → v2.ownBlock = some k → j < k) := by
  have H0 := hid h0
  have H1 := hid h1
  have H2 := hid h2
  obtain ⟨p0, c0, rfl, t0⟩ := h0
  clear t0
  obtain ⟨p1, c1, rfl, t1⟩ := h1
  clear t1
  obtain ⟨p2, c2, rfl, t2⟩ := h2
  clear t2
  obtain ⟨W0, hW0⟩ : ∃ W0, W0 = ((w.alloc (.cells #[.slice p0 l0.length c0, .slice p1 l1.length c1, .slice p2 l2.length c2] 24)).alloc (.cells #[.slice none 0 0, .slice none 0 0, .slice none 0 0] 26)).alloc (.cells #[.slice none 0 0, .slice none 0 0, .slice none 0 0] 26) := ⟨_, rfl⟩
  have K0 : Hid (Below w.heap.size w W0) := hid (by rw [hW0]; exact (((Below.refl _ _).alloc (Nat.le_refl _) _).alloc (by simp) _).alloc (by simp; omega) _)
  have V0 : Hid (W0.heap[w.heap.size]? = some (.cells #[.slice p0 l0.length c0, .slice p1 l1.length c1, .slice p2 l2.length c2] 24)) := hid (by rw [hW0]; exact st_first _ _ _)
  have R0 : Hid (W0.heap[w.heap.size + 1]? = some (.cells #[.slice none 0 0, .slice none 0 0, .slice none 0 0] 26)) := hid (by rw [hW0]; exact st_mid _ _ _)
  have O0 : Hid (W0.heap[w.heap.size + 1 + 1]? = some (.cells #[.slice none 0 0, .slice none 0 0, .slice none 0 0] 26)) := hid (by rw [hW0]; exact st_last _ _ _)
  have hz0 : w.heap.size + 1 + 1 < W0.heap.size := by rw [hW0]; simp
  have HW0 := hid hW0
  clear hW0
  go_enter Tryz.func7, Tryz.ntmps7
  go_wp2_with (go_at_call 26; rw [← HW0.out]; refine (to_calls l0 n0 _ _ (H0.out.on K0.out)).mono ?_; rintro e w1 ⟨sv0, rfl, hb1, ho0⟩; refine Hid.out ?_)
  refine hid ?_
  obtain ⟨q0, d0, rfl, _⟩ := own_shape ho0
  have HSB1 := hid hb1.size
  have K1 := hid (st_below K0.out (Nat.le_refl _) hb1)
  have V1 := hid ((hb1.block _ (by omega)).trans V0.out)
  have R1 := hid ((hb1.block _ (by omega)).trans R0.out)
  have O1 := hid ((hb1.block _ (by omega)).trans O0.out)
  have G0_1 := hid ho0
  have L0 := hid ho0.lt
  have hz1 : w.heap.size + 1 + 1 < w1.heap.size := Nat.lt_of_lt_of_le hz0 hb1.size
  clear hb1 ho0
  have k0 := (cell_of_row _ _ 0 _ _ _ V1.out).trans rfl
  have k1 := (cell_of_row _ _ 1 _ _ _ V1.out).trans rfl
  have k2 := (cell_of_row _ _ 2 _ _ _ V1.out).trans rfl
  have j0 := (cell_of_row _ _ 0 _ _ _ O1.out).trans rfl
  have j1 := (cell_of_row _ _ 1 _ _ _ O1.out).trans rfl
  have j2 := (cell_of_row _ _ 2 _ _ _ O1.out).trans rfl
  have f0 := st_thaw O1.out 0
  have f1 := st_thaw O1.out 1
  have f2 := st_thaw O1.out 2
  obtain ⟨W1, hW1⟩ : ∃ W, W = (w1.setCell ⟨w.heap.size + 1 + 1, 0, none⟩ (.slice q0 l0.length d0)) := ⟨_, rfl⟩
  have hs1 := ((Below.refl (w.heap.size + 1 + 1) w1).setCell (p := ⟨w.heap.size + 1 + 1, 0, none⟩) (Nat.le_refl _) (.slice q0 l0.length d0))
  rw [← hW1] at hs1
  have K1s : Hid (Below w.heap.size w W1) := hid (by rw [hW1]; exact (K1.out.setCell (p := ⟨w.heap.size + 1 + 1, 0, none⟩) (by show w.heap.size ≤ w.heap.size + 1 + 1; omega) _))
  have V1s := hid ((hs1.block w.heap.size (by omega)).trans V1.out)
  have R1s := hid ((hs1.block (w.heap.size + 1) (by omega)).trans R1.out)
  have O1s : Hid (W1.heap[w.heap.size + 1 + 1]? = some (.cells #[.slice q0 l0.length d0, .slice none 0 0, .slice none 0 0] 26)) := hid (by rw [hW1]; exact (heap_setCell_same _ (w.heap.size + 1 + 1) 0 _ _ (.slice q0 l0.length d0) O1.out))
  have G0_1s := hid (by
    have hne : (.slice q0 l0.length d0 : Value).ownBlock ≠ some (w.heap.size + 1 + 1) := fun e => by have := (L0.out _ e).1; omega
    exact (ownsRow_setCell_other G0_1.out (a := ⟨w.heap.size + 1 + 1, 0, none⟩) hne (.slice q0 l0.length d0)))
  rw [← hW1] at G0_1s
  have hz1s : w.heap.size + 1 + 1 < W1.heap.size := Nat.lt_of_lt_of_le hz1 hs1.size
  have HW1 := hid hW1
  have HSZ1 := hid hs1.size
  clear hW1 hs1
  clear K1
  have K1 := K1s
  clear V1
  have V1 := V1s
  clear R1
  have R1 := R1s
  clear O1
  have O1 := O1s
  clear G0_1
  have G0_1 := G0_1s
  clear hz1
  have hz1 := hz1s
  go_wp2_with (go_at_call 26; rw [← HW1.out]; refine (to_calls l1 n1 _ _ (H1.out.on K1.out)).mono ?_; rintro e w2 ⟨sv1, rfl, hb2, ho1⟩; refine Hid.out ?_)
  refine hid ?_
  obtain ⟨q1, d1, rfl, _⟩ := own_shape ho1
  have HSB2 := hid hb2.size
  have K2 := hid (st_below K1.out (Nat.le_refl _) hb2)
  have V2 := hid ((hb2.block _ (by omega)).trans V1.out)
  have R2 := hid ((hb2.block _ (by omega)).trans R1.out)
  have O2 := hid ((hb2.block _ (by omega)).trans O1.out)
  have G0_2 := hid (own_below G0_1.out hb2)
  have G1_2 := hid ho1
  have L1 := hid ho1.lt
  have hz2 : w.heap.size + 1 + 1 < w2.heap.size := Nat.lt_of_lt_of_le hz1 hb2.size
  clear hb2 ho1
  clear k0 k1 k2 j0 j1 j2 f0 f1 f2
  have k0 := (cell_of_row _ _ 0 _ _ _ V2.out).trans rfl
  have k1 := (cell_of_row _ _ 1 _ _ _ V2.out).trans rfl
  have k2 := (cell_of_row _ _ 2 _ _ _ V2.out).trans rfl
  have j0 := (cell_of_row _ _ 0 _ _ _ O2.out).trans rfl
  have j1 := (cell_of_row _ _ 1 _ _ _ O2.out).trans rfl
  have j2 := (cell_of_row _ _ 2 _ _ _ O2.out).trans rfl
  have f0 := st_thaw O2.out 0
  have f1 := st_thaw O2.out 1
  have f2 := st_thaw O2.out 2
  obtain ⟨W2, hW2⟩ : ∃ W, W = (w2.setCell ⟨w.heap.size + 1 + 1, 1, none⟩ (.slice q1 l1.length d1)) := ⟨_, rfl⟩
  have hs2 := ((Below.refl (w.heap.size + 1 + 1) w2).setCell (p := ⟨w.heap.size + 1 + 1, 1, none⟩) (Nat.le_refl _) (.slice q1 l1.length d1))
  rw [← hW2] at hs2
  have K2s : Hid (Below w.heap.size w W2) := hid (by rw [hW2]; exact (K2.out.setCell (p := ⟨w.heap.size + 1 + 1, 1, none⟩) (by show w.heap.size ≤ w.heap.size + 1 + 1; omega) _))
  have V2s := hid ((hs2.block w.heap.size (by omega)).trans V2.out)
  have R2s := hid ((hs2.block (w.heap.size + 1) (by omega)).trans R2.out)
  have O2s : Hid (W2.heap[w.heap.size + 1 + 1]? = some (.cells #[.slice q0 l0.length d0, .slice q1 l1.length d1, .slice none 0 0] 26)) := hid (by rw [hW2]; exact (heap_setCell_same _ (w.heap.size + 1 + 1) 1 _ _ (.slice q1 l1.length d1) O2.out))
  have G0_2s := hid (by
    have hne : (.slice q0 l0.length d0 : Value).ownBlock ≠ some (w.heap.size + 1 + 1) := fun e => by have := (L0.out _ e).1; omega
    exact (ownsRow_setCell_other G0_2.out (a := ⟨w.heap.size + 1 + 1, 1, none⟩) hne (.slice q1 l1.length d1)))
  rw [← hW2] at G0_2s
  have G1_2s := hid (by
    have hne : (.slice q1 l1.length d1 : Value).ownBlock ≠ some (w.heap.size + 1 + 1) := fun e => by have := (L1.out _ e).1; omega
    exact (ownsRow_setCell_other G1_2.out (a := ⟨w.heap.size + 1 + 1, 1, none⟩) hne (.slice q1 l1.length d1)))
  rw [← hW2] at G1_2s
  have hz2s : w.heap.size + 1 + 1 < W2.heap.size := Nat.lt_of_lt_of_le hz2 hs2.size
  have HW2 := hid hW2
  have HSZ2 := hid hs2.size
  clear hW2 hs2
  clear K2
  have K2 := K2s
  clear V2
  have V2 := V2s
  clear R2
  have R2 := R2s
  clear O2
  have O2 := O2s
  clear G0_2
  have G0_2 := G0_2s
  clear G1_2
  have G1_2 := G1_2s
  clear hz2
  have hz2 := hz2s
  go_wp2_with (go_at_call 26; rw [← HW2.out]; refine (to_calls l2 n2 _ _ (H2.out.on K2.out)).mono ?_; rintro e w3 ⟨sv2, rfl, hb3, ho2⟩; refine Hid.out ?_)
  refine hid ?_
  obtain ⟨q2, d2, rfl, _⟩ := own_shape ho2
  have HSB3 := hid hb3.size
  have K3 := hid (st_below K2.out (Nat.le_refl _) hb3)
  have V3 := hid ((hb3.block _ (by omega)).trans V2.out)
  have R3 := hid ((hb3.block _ (by omega)).trans R2.out)
  have O3 := hid ((hb3.block _ (by omega)).trans O2.out)
  have G0_3 := hid (own_below G0_2.out hb3)
  have G1_3 := hid (own_below G1_2.out hb3)
  have G2_3 := hid ho2
  have L2 := hid ho2.lt
  have hz3 : w.heap.size + 1 + 1 < w3.heap.size := Nat.lt_of_lt_of_le hz2 hb3.size
  clear hb3 ho2
  clear k0 k1 k2 j0 j1 j2 f0 f1 f2
  have k0 := (cell_of_row _ _ 0 _ _ _ V3.out).trans rfl
  have k1 := (cell_of_row _ _ 1 _ _ _ V3.out).trans rfl
  have k2 := (cell_of_row _ _ 2 _ _ _ V3.out).trans rfl
  have j0 := (cell_of_row _ _ 0 _ _ _ O3.out).trans rfl
  have j1 := (cell_of_row _ _ 1 _ _ _ O3.out).trans rfl
  have j2 := (cell_of_row _ _ 2 _ _ _ O3.out).trans rfl
  have f0 := st_thaw O3.out 0
  have f1 := st_thaw O3.out 1
  have f2 := st_thaw O3.out 2
  have r0 := (cell_of_row _ _ 0 _ _ _ R3.out).trans rfl
  have r1 := (cell_of_row _ _ 1 _ _ _ R3.out).trans rfl
  have r2 := (cell_of_row _ _ 2 _ _ _ R3.out).trans rfl
  have g0 := st_thaw R3.out 0
  have g1 := st_thaw R3.out 1
  have g2 := st_thaw R3.out 2
  go_wp2
  refine bodyPost_ret (v := .agg #[.slice q0 l0.length d0, .slice q1 l1.length d1, .slice q2 l2.length d2]) (by simp [results, Tryz.results7, go_sem, r0, r1, r2]) rfl ⟨.slice q0 l0.length d0, .slice q1 l1.length d1, .slice q2 l2.length d2, rfl, ?_, ?_, ?_, ?_, fun j k hj hk => Nat.lt_of_lt_of_le (L0.out j hj).2 (Nat.le_trans (by have := HSZ1.out; have := HSZ2.out; have := HSB1.out; have := HSB2.out; have := HSB3.out; omega) (L1.out k hk).1), fun j k hj hk => Nat.lt_of_lt_of_le (L0.out j hj).2 (Nat.le_trans (by have := HSZ1.out; have := HSZ2.out; have := HSB1.out; have := HSB2.out; have := HSB3.out; omega) (L2.out k hk).1), fun j k hj hk => Nat.lt_of_lt_of_le (L1.out j hj).2 (Nat.le_trans (by have := HSZ1.out; have := HSZ2.out; have := HSB1.out; have := HSB2.out; have := HSB3.out; omega) (L2.out k hk).1)⟩
  · exact ((((K3.out.setCell (p := ⟨w.heap.size + 1 + 1, 2, none⟩) (by show w.heap.size ≤ w.heap.size + 1 + 1; omega) _).setCell (p := ⟨w.heap.size + 1, 0, none⟩) (by show w.heap.size ≤ w.heap.size + 1; omega) _).setCell (p := ⟨w.heap.size + 1, 1, none⟩) (by show w.heap.size ≤ w.heap.size + 1; omega) _).setCell (p := ⟨w.heap.size + 1, 2, none⟩) (by show w.heap.size ≤ w.heap.size + 1; omega) _)
  · have hne1 : (.slice q0 l0.length d0 : Value).ownBlock ≠ some (w.heap.size + 1 + 1) := fun e => by have := (L0.out _ e).1; omega
    have hne2 : (.slice q0 l0.length d0 : Value).ownBlock ≠ some (w.heap.size + 1) := fun e => by have := (L0.out _ e).1; omega
    exact (ownsRow_setCell_other (ownsRow_setCell_other (ownsRow_setCell_other (ownsRow_setCell_other (st_lower G0_3.out (by first | exact Nat.le_refl _ | omega)) (a := ⟨w.heap.size + 1 + 1, 2, none⟩) hne1 _) (a := ⟨w.heap.size + 1, 0, none⟩) hne2 _) (a := ⟨w.heap.size + 1, 1, none⟩) hne2 _) (a := ⟨w.heap.size + 1, 2, none⟩) hne2 _)
  · have hne1 : (.slice q1 l1.length d1 : Value).ownBlock ≠ some (w.heap.size + 1 + 1) := fun e => by have := (L1.out _ e).1; omega
    have hne2 : (.slice q1 l1.length d1 : Value).ownBlock ≠ some (w.heap.size + 1) := fun e => by have := (L1.out _ e).1; omega
    exact (ownsRow_setCell_other (ownsRow_setCell_other (ownsRow_setCell_other (ownsRow_setCell_other (st_lower G1_3.out (by first | exact Nat.le_refl _ | omega)) (a := ⟨w.heap.size + 1 + 1, 2, none⟩) hne1 _) (a := ⟨w.heap.size + 1, 0, none⟩) hne2 _) (a := ⟨w.heap.size + 1, 1, none⟩) hne2 _) (a := ⟨w.heap.size + 1, 2, none⟩) hne2 _)
  · have hne1 : (.slice q2 l2.length d2 : Value).ownBlock ≠ some (w.heap.size + 1 + 1) := fun e => by have := (L2.out _ e).1; omega
    have hne2 : (.slice q2 l2.length d2 : Value).ownBlock ≠ some (w.heap.size + 1) := fun e => by have := (L2.out _ e).1; omega
    exact (ownsRow_setCell_other (ownsRow_setCell_other (ownsRow_setCell_other (ownsRow_setCell_other (st_lower G2_3.out (by first | exact Nat.le_refl _ | omega)) (a := ⟨w.heap.size + 1 + 1, 2, none⟩) hne1 _) (a := ⟨w.heap.size + 1, 0, none⟩) hne2 _) (a := ⟨w.heap.size + 1, 1, none⟩) hne2 _) (a := ⟨w.heap.size + 1, 2, none⟩) hne2 _)


set_option maxRecDepth 20000 in
set_option maxHeartbeats 2000000 in
theorem eq_Relying (l0 : List (List UInt8)) (l1 : List (List UInt8)) (l2 : List (List UInt8)) (n0 : l0.length ≤ 1000000000) (n1 : l1.length ≤ 1000000000) (n2 : l2.length ≤ 1000000000) (a0 b0 : Value) (a1 b1 : Value) (a2 b2 : Value) (w : World) (h0 : TextsAt w a0 l0) (h1 : TextsAt w a1 l1) (h2 : TextsAt w a2 l2) (i0 : TextsAt w b0 l0) (i1 : TextsAt w b1 l1) (i2 : TextsAt w b2 l2) :
    Calls Tryz.prog 9 #[.agg #[a0, a1, a2], .agg #[b0, b1, b2]] w fun e w' => e = .returned (.bool true) ∧ Below w.heap.size w w' := by
  have HA0 := hid h0
  have HI0 := hid i0
  have HA1 := hid h1
  have HI1 := hid i1
  have HA2 := hid h2
  have HI2 := hid i2
  obtain ⟨p0, c0, rfl, _⟩ := h0
  obtain ⟨q0, d0, rfl, _⟩ := i0
  obtain ⟨p1, c1, rfl, _⟩ := h1
  obtain ⟨q1, d1, rfl, _⟩ := i1
  obtain ⟨p2, c2, rfl, _⟩ := h2
  obtain ⟨q2, d2, rfl, _⟩ := i2
  obtain ⟨W0, hW0⟩ : ∃ W0, W0 = (w.alloc (.cells #[.slice p0 l0.length c0, .slice p1 l1.length c1, .slice p2 l2.length c2] 26)).alloc (.cells #[.slice q0 l0.length d0, .slice q1 l1.length d1, .slice q2 l2.length d2] 26) := ⟨_, rfl⟩
  have K0 : Hid (Below w.heap.size w W0) := hid (by rw [hW0]; exact ((Below.refl _ _).alloc (Nat.le_refl _) _).alloc (by simp) _)
  have V0 : Hid (W0.heap[w.heap.size]? = some (.cells #[.slice p0 l0.length c0, .slice p1 l1.length c1, .slice p2 l2.length c2] 26)) := hid (by rw [hW0]; exact st_one _ _)
  have U0 : Hid (W0.heap[w.heap.size + 1]? = some (.cells #[.slice q0 l0.length d0, .slice q1 l1.length d1, .slice q2 l2.length d2] 26)) := hid (by rw [hW0]; exact st_two _ _)
  have hz0 : w.heap.size + 1 < W0.heap.size := by rw [hW0]; simp
  have HW0 := hid hW0
  clear hW0
  go_enter Tryz.func9, Tryz.ntmps9
  go_wp2_with (go_at_call 30; rw [← HW0.out]; refine (eq_same l0 n0 _ _ _ (HA0.out.on K0.out) (HI0.out.on K0.out)).mono ?_; rintro e w1 ⟨rfl, hb1⟩; refine Hid.out ?_)
  refine hid ?_
  have K1 := hid (st_below K0.out (Nat.le_refl _) hb1)
  have V1 := hid ((hb1.block _ (by omega)).trans V0.out)
  have U1 := hid ((hb1.block _ (by omega)).trans U0.out)
  have hz1 := hb1.size
  clear hb1
  have k0 := (cell_of_row _ _ 0 _ _ _ V1.out).trans rfl
  have k1 := (cell_of_row _ _ 1 _ _ _ V1.out).trans rfl
  have k2 := (cell_of_row _ _ 2 _ _ _ V1.out).trans rfl
  have j0 := (cell_of_row _ _ 0 _ _ _ U1.out).trans rfl
  have j1 := (cell_of_row _ _ 1 _ _ _ U1.out).trans rfl
  have j2 := (cell_of_row _ _ 2 _ _ _ U1.out).trans rfl
  go_wp2_with (go_at_call 30; refine (eq_same l1 n1 _ _ _ (HA1.out.on K1.out) (HI1.out.on K1.out)).mono ?_; rintro e w2 ⟨rfl, hb2⟩; refine Hid.out ?_)
  refine hid ?_
  have K2 := hid (st_below K1.out (Nat.le_refl _) hb2)
  have V2 := hid ((hb2.block _ (by omega)).trans V1.out)
  have U2 := hid ((hb2.block _ (by omega)).trans U1.out)
  have hz2 := hb2.size
  clear hb2
  clear k0 k1 k2 j0 j1 j2
  have k0 := (cell_of_row _ _ 0 _ _ _ V2.out).trans rfl
  have k1 := (cell_of_row _ _ 1 _ _ _ V2.out).trans rfl
  have k2 := (cell_of_row _ _ 2 _ _ _ V2.out).trans rfl
  have j0 := (cell_of_row _ _ 0 _ _ _ U2.out).trans rfl
  have j1 := (cell_of_row _ _ 1 _ _ _ U2.out).trans rfl
  have j2 := (cell_of_row _ _ 2 _ _ _ U2.out).trans rfl
  go_wp2_with (go_at_call 30; refine (eq_same l2 n2 _ _ _ (HA2.out.on K2.out) (HI2.out.on K2.out)).mono ?_; rintro e w3 ⟨rfl, hb3⟩; refine Hid.out ?_)
  refine hid ?_
  have K3 := hid (st_below K2.out (Nat.le_refl _) hb3)
  have V3 := hid ((hb3.block _ (by omega)).trans V2.out)
  have U3 := hid ((hb3.block _ (by omega)).trans U2.out)
  have hz3 := hb3.size
  clear hb3
  clear k0 k1 k2 j0 j1 j2
  have k0 := (cell_of_row _ _ 0 _ _ _ V3.out).trans rfl
  have k1 := (cell_of_row _ _ 1 _ _ _ V3.out).trans rfl
  have k2 := (cell_of_row _ _ 2 _ _ _ V3.out).trans rfl
  have j0 := (cell_of_row _ _ 0 _ _ _ U3.out).trans rfl
  have j1 := (cell_of_row _ _ 1 _ _ _ U3.out).trans rfl
  have j2 := (cell_of_row _ _ 2 _ _ _ U3.out).trans rfl
  go_wp2
  go_ret
  exact ⟨rfl, K3.out⟩


end Go.Proofs.YtjaaplcgphlccaaGreatDoor
