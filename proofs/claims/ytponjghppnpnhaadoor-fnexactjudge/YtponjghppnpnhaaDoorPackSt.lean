/- Laid together: StructKit, StPolicy. -/
import Derived.Test.YtponjghppnpnhaaDoorMarks
import Derived.Test.YtponjghppnpnhaaDoorArgTexts
import Derived.Test.YtponjghppnpnhaaDoorFlatRow
import Derived.OneCell
import Derived.Test.YtponjghppnpnhaaDoorRowRef

namespace Go.Proofs.YtponjghppnpnhaaDoor
open Go.RowKit
open Go.Lib (hid)

theorem st_first {w : World} (x y z : Obj) : (((w.alloc x).alloc y).alloc z).heap[w.heap.size]? = some x := by
  have h := heap_alloc_new w x
  rw [(((Below.refl (w.alloc x).heap.size (w.alloc x)).alloc (Nat.le_refl _) y).alloc (by simp) z).block _ (by simp)]
  exact h

theorem st_mid {w : World} (x y z : Obj) : (((w.alloc x).alloc y).alloc z).heap[w.heap.size + 1]? = some y := by
  have h := heap_alloc_new (w.alloc x) y
  have h2 : ((w.alloc x).alloc y).heap[w.heap.size + 1]? = some y := by simpa using h
  rw [((Below.refl ((w.alloc x).alloc y).heap.size ((w.alloc x).alloc y)).alloc (Nat.le_refl _) z).block _ (by simp)]
  exact h2

theorem st_last {w : World} (x y z : Obj) : (((w.alloc x).alloc y).alloc z).heap[w.heap.size + 1 + 1]? = some z := by
  have h := heap_alloc_new ((w.alloc x).alloc y) z
  simpa using h

theorem st_two {w : World} (x y : Obj) : ((w.alloc x).alloc y).heap[w.heap.size + 1]? = some y := by
  have h := heap_alloc_new (w.alloc x) y
  simpa using h

theorem st_one {w : World} (x y : Obj) : ((w.alloc x).alloc y).heap[w.heap.size]? = some x := by
  have h := heap_alloc_new w x
  rw [((Below.refl (w.alloc x).heap.size (w.alloc x)).alloc (Nat.le_refl _) y).block _ (by simp)]
  exact h

theorem st_lower {w : World} {base base' size n : Nat} {e : TypeId} {v : Value} {xs : List Value} (h : w.ownsRow base e size v n xs) (hb : base' ≤ base) : w.ownsRow base' e size v n xs :=
  ⟨h.1, h.2.imp id fun ⟨g, cap, cur, a1, a2, a3⟩ => ⟨g, cap, cur, a1, Nat.le_trans hb a2, a3⟩⟩

theorem st_thaw {W : World} {b : Nat} {V : Array Value} {t : TypeId} (h : W.heap[b]? = some (.cells V t)) (o : Nat) : W.frozen? ⟨b, o, none⟩ = false := by simp [World.frozen?, h]

theorem st_below {B : Nat} {a b c : World} (h : Below B a b) (hB : B ≤ a.heap.size) (k : Below b.heap.size b c) : Below B a c := h.trans (k.mono (Nat.le_trans hB h.size))

/-- The size that is asked of texts, of which some has been used already. -/
theorem sz_strs (ps : List (List UInt8)) (hs : ∀ p ∈ ps, p.length ≤ 9223372036854775807) (hn : ps.length ≤ 9223372036854775807) (k : Nat) (hk : k ≤ 1048576) (a : Value) (w : World) (ha : ArgAt w a ps) :
    Calls Tryd.prog 12 #[a, .int .i64 k] w fun e w' => (∃ r : Int, e = .returned (.int .i64 r) ∧ (r < 0 ∨ 0 ≤ r ∧ r + ((ps.length + total ps : Nat) : Int) = (k : Int))) ∧ Below w.heap.size w w' := by
  obtain ⟨p, c, rfl, hp⟩ := ha
  have HP := hid hp
  have HS := hid hs
  clear hp hs
  by_cases hl : ps.length ≤ k
  · go_enter Tryd.func12, Tryd.ntmps12
    go_wp2
    go_loopw [1, 5] (fun lv iv wr => ∃ i : Nat, ∃ r : Int, i ≤ ps.length ∧ iv = .int .i64 i ∧ lv = .int .i64 r ∧ 0 ≤ r ∧ r ≤ 1048576 ∧ Below w.heap.size w wr ∧ Hid (r = (k : Int) - (ps.length : Int) - (total (ps.take i) : Int))) (fun _ iv _ => ps.length - (RowKit.intOf iv).toNat)
    case atStart => exact ⟨0, _, Nat.zero_le _, rfl, rfl, by omega, by omega, Below.refl _ _, hid (by simp [total])⟩
    case round =>
      obtain ⟨i, r, hi, rfl, rfl, hr0, hr1, hbel, HR⟩ := hrel
      have HB := hid hbel
      by_cases hlt : i < ps.length
      · obtain ⟨ad, rfl, hbl, hc⟩ := HP.out i hlt
        have hc1 : wr.cell? (ad.add i) = some (.string ⟨ps[i].toArray⟩) := by rw [hbel.cell (p := ad.add i) (by rw [add_block]; exact hbl)]; exact hc
        have hx1 := HS.out ps[i] (List.getElem_mem hlt)
        have hx2 : (⟨ps[i].toArray⟩ : ByteArray).size = ps[i].length := by show ps[i].toArray.size = _; simp
        have HTK := hid (total_take ps i hlt)
        rw [← hx2] at hx1
        have HX := hid hx2
        clear hx2 hc
        generalize (⟨ps[i].toArray⟩ : ByteArray) = x at *
        clear hbel
        by_cases hneg : r - (x.size : Int) < 0
        · go_wp2
          go_ret
          exact ⟨⟨-1, rfl, Or.inl (by omega)⟩, HB.out⟩
        · go_wp2
          go_roundw
          case rel => exact ⟨i + 1, _, by omega, by go_num, rfl, by omega, by omega, HB.out, hid (by have := HR.out; rw [HTK.out, ← HX.out]; omega)⟩
          case measure => simp [RowKit.intOf]; omega
      · have hie : i = ps.length := by omega
        subst hie
        clear hbel
        go_wp2
        go_ret
        refine ⟨⟨r, rfl, Or.inr ⟨hr0, ?_⟩⟩, HB.out⟩
        have := HR.out
        rw [List.take_of_length_le (Nat.le_refl _)] at this
        omega
  · go_enter Tryd.func12, Tryd.ntmps12
    go_wp2
    go_ret
    exact ⟨⟨-1, rfl, Or.inl (by omega)⟩, Below.refl _ _⟩

end Go.Proofs.YtponjghppnpnhaaDoor

namespace Go.Proofs.YtponjghppnpnhaaDoor
open Go.RowKit
open Go.Lib (hid)

set_option maxRecDepth 20000 in
set_option maxHeartbeats 2000000 in
theorem sz_Policy (x0 : Int) (l1 : List RefD) (l2 : List (List UInt8)) (s1 : ∀ e ∈ l1, tameRef e) (n1 : l1.length ≤ maxLen) (s2 : ∀ p ∈ l2, p.length ≤ 9223372036854775807) (n2 : l2.length ≤ 9223372036854775807) (k : Nat) (hk : k ≤ 1048576) (a1 : Value) (a2 : Value) (w : World) (h1 : FArg encRef 3 w a1 l1) (h2 : ArgAt w a2 l2) :
    Calls Tryd.prog 26 #[.agg #[.int .i64 x0, a1, a2], .int .i64 k] w fun e w' => (∃ r : Int, e = .returned (.int .i64 r) ∧ (r < 0 ∨ 0 ≤ r ∧ r + (((l1.length + used szRefN l1) + (l2.length + total l2) : Nat) : Int) = (k : Int))) ∧ Below w.heap.size w w' := by
  have H1 := hid h1
  have H2 := hid h2
  have S1 := hid s1
  have M1 := hid n1
  have S2 := hid s2
  obtain ⟨p1, c1, rfl, t1⟩ := h1
  clear t1
  obtain ⟨p2, c2, rfl, t2⟩ := h2
  clear t2
  clear s1 s2 n1
  obtain ⟨W0, hW0⟩ : ∃ W0, W0 = w.alloc (.cells #[.int .i64 x0, .slice p1 l1.length c1, .slice p2 l2.length c2] 46) := ⟨_, rfl⟩
  have HB0 : Hid (Below w.heap.size w W0) := hid (by rw [hW0]; exact (Below.refl _ _).alloc (Nat.le_refl _) _)
  have HC0 : Hid (W0.heap[w.heap.size]? = some (.cells #[.int .i64 x0, .slice p1 l1.length c1, .slice p2 l2.length c2] 46)) := hid (by rw [hW0]; exact heap_alloc_new _ _)
  have hz0 : w.heap.size < W0.heap.size := by rw [hW0]; simp
  have HW0 := hid hW0
  clear hW0
  go_enter Tryd.func26, Tryd.ntmps26
  have CZ1 := hid (fun a W hW => sz_Refs l1 S1.out M1.out k (by omega) a W hW)
  go_wp2_with (go_at_call 68; rw [← HW0.out]; refine (CZ1.out _ _ (H1.out.on HB0.out)).mono ?_; rintro e w1 ⟨⟨r1, rfl, hr1⟩, hb1⟩; refine Hid.out ?_)
  refine hid ?_
  have HB1 := hid (HB0.out.trans (hb1.mono HB0.out.size))
  have HC1 := hid ((hb1.block _ (by omega)).trans HC0.out)
  have hz1 := hb1.size
  clear hb1
  have k0 := (cell_of_row _ _ 0 _ _ _ HC1.out).trans rfl
  have k1 := (cell_of_row _ _ 1 _ _ _ HC1.out).trans rfl
  have k2 := (cell_of_row _ _ 2 _ _ _ HC1.out).trans rfl
  rcases hr1 with hr1 | ⟨hr1, ht1⟩
  · skip
    go_wp2
    go_ret
    exact ⟨⟨-1, rfl, Or.inl (by omega)⟩, HB1.out⟩
  · obtain ⟨z1r, rfl⟩ := Int.eq_ofNat_of_zero_le hr1
    have hn1r : ¬ ((z1r : Nat) : Int) < 0 := by omega
    have HT1 := hid ht1
    clear ht1
    have hk1r : z1r ≤ 1048576 := by have := HT1.out; omega
    have CZ2 := hid (fun a W hW => sz_strs l2 S2.out n2 z1r (by omega) a W hW)
    go_wp2_with (go_at_call 12; refine (CZ2.out _ _ (H2.out.on HB1.out)).mono ?_; rintro e w2 ⟨⟨r2, rfl, hr2⟩, hb2⟩; refine Hid.out ?_)
    refine hid ?_
    have HB2 := hid (HB1.out.trans (hb2.mono HB1.out.size))
    have HC2 := hid ((hb2.block _ (by omega)).trans HC1.out)
    have hz2 := hb2.size
    clear hb2
    clear k0 k1 k2
    have k0 := (cell_of_row _ _ 0 _ _ _ HC2.out).trans rfl
    have k1 := (cell_of_row _ _ 1 _ _ _ HC2.out).trans rfl
    have k2 := (cell_of_row _ _ 2 _ _ _ HC2.out).trans rfl
    rcases hr2 with hr2 | ⟨hr2, ht2⟩
    · skip
      go_wp2
      go_ret
      exact ⟨⟨-1, rfl, Or.inl (by omega)⟩, HB2.out⟩
    · obtain ⟨z2r, rfl⟩ := Int.eq_ofNat_of_zero_le hr2
      have hn2r : ¬ ((z2r : Nat) : Int) < 0 := by omega
      have HT2 := hid ht2
      clear ht2
      have hk2r : z2r ≤ 1048576 := by have := HT2.out; omega
      go_wp2
      go_ret
      exact ⟨⟨_, rfl, Or.inr ⟨by omega, by have := HT1.out; have := HT2.out; omega⟩⟩, HB2.out⟩


set_option maxRecDepth 20000 in
set_option maxHeartbeats 2000000 in
theorem to_Policy (x0 : Int) (l1 : List RefD) (l2 : List (List UInt8)) (n1 : l1.length ≤ 1048576) (n2 : l2.length ≤ 1048576) (a1 : Value) (a2 : Value) (w : World) (h1 : FArg encRef 3 w a1 l1) (h2 : ArgAt w a2 l2) :
    Calls Tryd.prog 29 #[.agg #[.int .i64 x0, a1, a2]] w fun e w' => ∃ v1 v2, e = .returned (.agg #[.int .i64 x0, v1, v2]) ∧ Below w.heap.size w w' ∧ w'.ownsRow w.heap.size 113 3 (v1) l1.length (flat encRef l1) ∧ w'.ownsRow w.heap.size 9 1 (v2) l2.length (strs l2) ∧ (∀ j k, v1.ownBlock = some j → v2.ownBlock = some k → j < k) := by
  have H1 := hid h1
  have H2 := hid h2
  obtain ⟨p1, c1, rfl, t1⟩ := h1
  clear t1
  obtain ⟨p2, c2, rfl, t2⟩ := h2
  clear t2
  obtain ⟨W0, hW0⟩ : ∃ W0, W0 = ((w.alloc (.cells #[.int .i64 x0, .slice p1 l1.length c1, .slice p2 l2.length c2] 46)).alloc (.cells #[.int .i64 0, .slice none 0 0, .slice none 0 0] 54)).alloc (.cells #[.int .i64 x0, .slice none 0 0, .slice none 0 0] 54) := ⟨_, rfl⟩
  have K0 : Hid (Below w.heap.size w W0) := hid (by rw [hW0]; exact (((Below.refl _ _).alloc (Nat.le_refl _) _).alloc (by simp) _).alloc (by simp; omega) _)
  have V0 : Hid (W0.heap[w.heap.size]? = some (.cells #[.int .i64 x0, .slice p1 l1.length c1, .slice p2 l2.length c2] 46)) := hid (by rw [hW0]; exact st_first _ _ _)
  have R0 : Hid (W0.heap[w.heap.size + 1]? = some (.cells #[.int .i64 0, .slice none 0 0, .slice none 0 0] 54)) := hid (by rw [hW0]; exact st_mid _ _ _)
  have O0 : Hid (W0.heap[w.heap.size + 1 + 1]? = some (.cells #[.int .i64 x0, .slice none 0 0, .slice none 0 0] 54)) := hid (by rw [hW0]; exact st_last _ _ _)
  have hz0 : w.heap.size + 1 + 1 < W0.heap.size := by rw [hW0]; simp
  have HW0 := hid hW0
  clear hW0
  go_enter Tryd.func29, Tryd.ntmps29
  go_wp2_with (go_at_call 72; rw [← HW0.out]; refine (to_Refs l1 n1 _ _ (H1.out.on K0.out)).mono ?_; rintro e w1 ⟨rfl, hb1, ho1⟩; refine Hid.out ?_)
  refine hid ?_
  have HSB1 := hid hb1.size
  have K1 := hid (st_below K0.out (Nat.le_refl _) hb1)
  have V1 := hid ((hb1.block _ (by omega)).trans V0.out)
  have R1 := hid ((hb1.block _ (by omega)).trans R0.out)
  have O1 := hid ((hb1.block _ (by omega)).trans O0.out)
  have G1_1 := hid ho1
  have L1 := hid ho1.lt
  have hz1 : w.heap.size + 1 + 1 < w1.heap.size := Nat.lt_of_lt_of_le hz0 hb1.size
  clear hb1 ho1
  have k0 := (cell_of_row _ _ 0 _ _ _ V1.out).trans rfl
  have k1 := (cell_of_row _ _ 1 _ _ _ V1.out).trans rfl
  have k2 := (cell_of_row _ _ 2 _ _ _ V1.out).trans rfl
  have j0 := (cell_of_row _ _ 0 _ _ _ O1.out).trans rfl
  have j1 := (cell_of_row _ _ 1 _ _ _ O1.out).trans rfl
  have j2 := (cell_of_row _ _ 2 _ _ _ O1.out).trans rfl
  have f0 := st_thaw O1.out 0
  have f1 := st_thaw O1.out 1
  have f2 := st_thaw O1.out 2
  obtain ⟨W1, hW1⟩ : ∃ W, W = (w1.setCell ⟨w.heap.size + 1 + 1, 1, none⟩ (.slice (some ⟨W0.heap.size, 0, none⟩) l1.length l1.length)) := ⟨_, rfl⟩
  have hs1 := ((Below.refl (w.heap.size + 1 + 1) w1).setCell (p := ⟨w.heap.size + 1 + 1, 1, none⟩) (Nat.le_refl _) (.slice (some ⟨W0.heap.size, 0, none⟩) l1.length l1.length))
  rw [← hW1] at hs1
  have K1s : Hid (Below w.heap.size w W1) := hid (by rw [hW1]; exact (K1.out.setCell (p := ⟨w.heap.size + 1 + 1, 1, none⟩) (by show w.heap.size ≤ w.heap.size + 1 + 1; omega) _))
  have V1s := hid ((hs1.block w.heap.size (by omega)).trans V1.out)
  have R1s := hid ((hs1.block (w.heap.size + 1) (by omega)).trans R1.out)
  have O1s : Hid (W1.heap[w.heap.size + 1 + 1]? = some (.cells #[.int .i64 x0, .slice (some ⟨W0.heap.size, 0, none⟩) l1.length l1.length, .slice none 0 0] 54)) := hid (by rw [hW1]; exact (heap_setCell_same _ (w.heap.size + 1 + 1) 1 _ _ (.slice (some ⟨W0.heap.size, 0, none⟩) l1.length l1.length) O1.out))
  have G1_1s := hid (by
    have hne : (.slice (some ⟨W0.heap.size, 0, none⟩) l1.length l1.length : Value).ownBlock ≠ some (w.heap.size + 1 + 1) := fun e => by have := (L1.out _ e).1; omega
    exact (ownsRow_setCell_other G1_1.out (a := ⟨w.heap.size + 1 + 1, 1, none⟩) hne (.slice (some ⟨W0.heap.size, 0, none⟩) l1.length l1.length)))
  rw [← hW1] at G1_1s
  have hz1s : w.heap.size + 1 + 1 < W1.heap.size := Nat.lt_of_lt_of_le hz1 hs1.size
  have HW1 := hid hW1
  have HSZ1 := hid hs1.size
  clear hW1 hs1
  clear K1
  have K1 := K1s
  clear V1
  have V1 := V1s
  clear R1
  have R1 := R1s
  clear O1
  have O1 := O1s
  clear G1_1
  have G1_1 := G1_1s
  clear hz1
  have hz1 := hz1s
  go_wp2_with (go_at_call 14; rw [← HW1.out]; refine (to_calls l2 n2 _ _ (H2.out.on K1.out)).mono ?_; rintro e w2 ⟨sv2, rfl, hb2, ho2⟩; refine Hid.out ?_)
  refine hid ?_
  obtain ⟨q2, d2, rfl, _⟩ := own_shape ho2
  have HSB2 := hid hb2.size
  have K2 := hid (st_below K1.out (Nat.le_refl _) hb2)
  have V2 := hid ((hb2.block _ (by omega)).trans V1.out)
  have R2 := hid ((hb2.block _ (by omega)).trans R1.out)
  have O2 := hid ((hb2.block _ (by omega)).trans O1.out)
  have G1_2 := hid (own_below G1_1.out hb2)
  have G2_2 := hid ho2
  have L2 := hid ho2.lt
  have hz2 : w.heap.size + 1 + 1 < w2.heap.size := Nat.lt_of_lt_of_le hz1 hb2.size
  clear hb2 ho2
  clear k0 k1 k2 j0 j1 j2 f0 f1 f2
  have k0 := (cell_of_row _ _ 0 _ _ _ V2.out).trans rfl
  have k1 := (cell_of_row _ _ 1 _ _ _ V2.out).trans rfl
  have k2 := (cell_of_row _ _ 2 _ _ _ V2.out).trans rfl
  have j0 := (cell_of_row _ _ 0 _ _ _ O2.out).trans rfl
  have j1 := (cell_of_row _ _ 1 _ _ _ O2.out).trans rfl
  have j2 := (cell_of_row _ _ 2 _ _ _ O2.out).trans rfl
  have f0 := st_thaw O2.out 0
  have f1 := st_thaw O2.out 1
  have f2 := st_thaw O2.out 2
  have r0 := (cell_of_row _ _ 0 _ _ _ R2.out).trans rfl
  have r1 := (cell_of_row _ _ 1 _ _ _ R2.out).trans rfl
  have r2 := (cell_of_row _ _ 2 _ _ _ R2.out).trans rfl
  have g0 := st_thaw R2.out 0
  have g1 := st_thaw R2.out 1
  have g2 := st_thaw R2.out 2
  go_wp2
  refine bodyPost_ret (v := .agg #[.int .i64 x0, .slice (some ⟨W0.heap.size, 0, none⟩) l1.length l1.length, .slice q2 l2.length d2]) (by simp [results, Tryd.results29, go_sem, r0, r1, r2]) rfl ⟨.slice (some ⟨W0.heap.size, 0, none⟩) l1.length l1.length, .slice q2 l2.length d2, rfl, ?_, ?_, ?_, fun j k hj hk => Nat.lt_of_lt_of_le (L1.out j hj).2 (Nat.le_trans (by have := HSZ1.out; have := HSB1.out; have := HSB2.out; omega) (L2.out k hk).1)⟩
  · exact ((((K2.out.setCell (p := ⟨w.heap.size + 1 + 1, 2, none⟩) (by show w.heap.size ≤ w.heap.size + 1 + 1; omega) _).setCell (p := ⟨w.heap.size + 1, 0, none⟩) (by show w.heap.size ≤ w.heap.size + 1; omega) _).setCell (p := ⟨w.heap.size + 1, 1, none⟩) (by show w.heap.size ≤ w.heap.size + 1; omega) _).setCell (p := ⟨w.heap.size + 1, 2, none⟩) (by show w.heap.size ≤ w.heap.size + 1; omega) _)
  · have hne1 : (.slice (some ⟨W0.heap.size, 0, none⟩) l1.length l1.length : Value).ownBlock ≠ some (w.heap.size + 1 + 1) := fun e => by have := (L1.out _ e).1; omega
    have hne2 : (.slice (some ⟨W0.heap.size, 0, none⟩) l1.length l1.length : Value).ownBlock ≠ some (w.heap.size + 1) := fun e => by have := (L1.out _ e).1; omega
    exact (ownsRow_setCell_other (ownsRow_setCell_other (ownsRow_setCell_other (ownsRow_setCell_other (st_lower G1_2.out (by first | exact Nat.le_refl _ | omega)) (a := ⟨w.heap.size + 1 + 1, 2, none⟩) hne1 _) (a := ⟨w.heap.size + 1, 0, none⟩) hne2 _) (a := ⟨w.heap.size + 1, 1, none⟩) hne2 _) (a := ⟨w.heap.size + 1, 2, none⟩) hne2 _)
  · have hne1 : (.slice q2 l2.length d2 : Value).ownBlock ≠ some (w.heap.size + 1 + 1) := fun e => by have := (L2.out _ e).1; omega
    have hne2 : (.slice q2 l2.length d2 : Value).ownBlock ≠ some (w.heap.size + 1) := fun e => by have := (L2.out _ e).1; omega
    exact (ownsRow_setCell_other (ownsRow_setCell_other (ownsRow_setCell_other (ownsRow_setCell_other (st_lower G2_2.out (by first | exact Nat.le_refl _ | omega)) (a := ⟨w.heap.size + 1 + 1, 2, none⟩) hne1 _) (a := ⟨w.heap.size + 1, 0, none⟩) hne2 _) (a := ⟨w.heap.size + 1, 1, none⟩) hne2 _) (a := ⟨w.heap.size + 1, 2, none⟩) hne2 _)


set_option maxRecDepth 20000 in
set_option maxHeartbeats 2000000 in
theorem eq_Policy (x0 : Int) (l1 : List RefD) (l2 : List (List UInt8)) (n1 : l1.length ≤ 100000000) (n2 : l2.length ≤ 1000000000) (a1 b1 : Value) (a2 b2 : Value) (w : World) (h1 : FRow encRef 3 w a1 l1) (h2 : TextsAt w a2 l2) (i1 : FRow encRef 3 w b1 l1) (i2 : TextsAt w b2 l2) :
    Calls Tryd.prog 32 #[.agg #[.int .i64 x0, a1, a2], .agg #[.int .i64 x0, b1, b2]] w fun e w' => e = .returned (.bool true) ∧ Below w.heap.size w w' := by
  have HA1 := hid h1
  have HI1 := hid i1
  have HA2 := hid h2
  have HI2 := hid i2
  obtain ⟨p1, c1, rfl, _, _⟩ := h1
  obtain ⟨q1, d1, rfl, _, _⟩ := i1
  obtain ⟨p2, c2, rfl, _⟩ := h2
  obtain ⟨q2, d2, rfl, _⟩ := i2
  obtain ⟨W0, hW0⟩ : ∃ W0, W0 = (w.alloc (.cells #[.int .i64 x0, .slice p1 l1.length c1, .slice p2 l2.length c2] 54)).alloc (.cells #[.int .i64 x0, .slice q1 l1.length d1, .slice q2 l2.length d2] 54) := ⟨_, rfl⟩
  have K0 : Hid (Below w.heap.size w W0) := hid (by rw [hW0]; exact ((Below.refl _ _).alloc (Nat.le_refl _) _).alloc (by simp) _)
  have V0 : Hid (W0.heap[w.heap.size]? = some (.cells #[.int .i64 x0, .slice p1 l1.length c1, .slice p2 l2.length c2] 54)) := hid (by rw [hW0]; exact st_one _ _)
  have U0 : Hid (W0.heap[w.heap.size + 1]? = some (.cells #[.int .i64 x0, .slice q1 l1.length d1, .slice q2 l2.length d2] 54)) := hid (by rw [hW0]; exact st_two _ _)
  have hz0 : w.heap.size + 1 < W0.heap.size := by rw [hW0]; simp
  have HW0 := hid hW0
  clear hW0
  go_enter Tryd.func32, Tryd.ntmps32
  go_wp2_with (go_at_call 75; rw [← HW0.out]; refine (eq_Refs l1 n1 _ _ _ (HA1.out.on K0.out) (HI1.out.on K0.out)).mono ?_; rintro e w1 ⟨rfl, hb1⟩; refine Hid.out ?_)
  refine hid ?_
  have K1 := hid (st_below K0.out (Nat.le_refl _) hb1)
  have V1 := hid ((hb1.block _ (by omega)).trans V0.out)
  have U1 := hid ((hb1.block _ (by omega)).trans U0.out)
  have hz1 := hb1.size
  clear hb1
  have k0 := (cell_of_row _ _ 0 _ _ _ V1.out).trans rfl
  have k1 := (cell_of_row _ _ 1 _ _ _ V1.out).trans rfl
  have k2 := (cell_of_row _ _ 2 _ _ _ V1.out).trans rfl
  have j0 := (cell_of_row _ _ 0 _ _ _ U1.out).trans rfl
  have j1 := (cell_of_row _ _ 1 _ _ _ U1.out).trans rfl
  have j2 := (cell_of_row _ _ 2 _ _ _ U1.out).trans rfl
  go_wp2_with (go_at_call 16; refine (eq_same l2 n2 _ _ _ (HA2.out.on K1.out) (HI2.out.on K1.out)).mono ?_; rintro e w2 ⟨rfl, hb2⟩; refine Hid.out ?_)
  refine hid ?_
  have K2 := hid (st_below K1.out (Nat.le_refl _) hb2)
  have V2 := hid ((hb2.block _ (by omega)).trans V1.out)
  have U2 := hid ((hb2.block _ (by omega)).trans U1.out)
  have hz2 := hb2.size
  clear hb2
  clear k0 k1 k2 j0 j1 j2
  have k0 := (cell_of_row _ _ 0 _ _ _ V2.out).trans rfl
  have k1 := (cell_of_row _ _ 1 _ _ _ V2.out).trans rfl
  have k2 := (cell_of_row _ _ 2 _ _ _ V2.out).trans rfl
  have j0 := (cell_of_row _ _ 0 _ _ _ U2.out).trans rfl
  have j1 := (cell_of_row _ _ 1 _ _ _ U2.out).trans rfl
  have j2 := (cell_of_row _ _ 2 _ _ _ U2.out).trans rfl
  go_wp2
  go_ret
  exact ⟨rfl, K2.out⟩


end Go.Proofs.YtponjghppnpnhaaDoor
