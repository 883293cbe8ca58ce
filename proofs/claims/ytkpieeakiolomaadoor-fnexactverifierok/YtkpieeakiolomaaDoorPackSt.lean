/- Laid together: StructKit, StTable, StPolicy, StVerifier, VerBoth. -/
import Derived.Test.YtkpieeakiolomaaDoorMarks
import Derived.Test.YtkpieeakiolomaaDoorArgTexts
import Derived.Test.YtkpieeakiolomaaDoorFlatRow
import Derived.OneCell
import Derived.Test.YtkpieeakiolomaaDoorPackRow
import Derived.Test.YtkpieeakiolomaaDoorPackTab
import Derived.Test.YtkpieeakiolomaaDoorPackPol
import Derived.Test.YtkpieeakiolomaaDoorPolSpec

namespace Go.Proofs.YtkpieeakiolomaaDoor
open Go.RowKit
open Go.Lib (hid)

theorem st_first {w : World} (x y z : Obj) : (((w.alloc x).alloc y).alloc z).heap[w.heap.size]? = some x := by
  have h := heap_alloc_new w x
  rw [(((Below.refl (w.alloc x).heap.size (w.alloc x)).alloc (Nat.le_refl _) y).alloc (by simp) z).block _ (by simp)]
  exact h

theorem st_mid {w : World} (x y z : Obj) : (((w.alloc x).alloc y).alloc z).heap[w.heap.size + 1]? = some y := by
  have h := heap_alloc_new (w.alloc x) y
  have h2 : ((w.alloc x).alloc y).heap[w.heap.size + 1]? = some y := by simpa using h
  rw [((Below.refl ((w.alloc x).alloc y).heap.size ((w.alloc x).alloc y)).alloc (Nat.le_refl _) z).block _ (by simp)]
  exact h2

theorem st_last {w : World} (x y z : Obj) : (((w.alloc x).alloc y).alloc z).heap[w.heap.size + 1 + 1]? = some z := by
  have h := heap_alloc_new ((w.alloc x).alloc y) z
  simpa using h

theorem st_two {w : World} (x y : Obj) : ((w.alloc x).alloc y).heap[w.heap.size + 1]? = some y := by
  have h := heap_alloc_new (w.alloc x) y
  simpa using h

theorem st_one {w : World} (x y : Obj) : ((w.alloc x).alloc y).heap[w.heap.size]? = some x := by
  have h := heap_alloc_new w x
  rw [((Below.refl (w.alloc x).heap.size (w.alloc x)).alloc (Nat.le_refl _) y).block _ (by simp)]
  exact h

theorem st_lower {w : World} {base base' size n : Nat} {e : TypeId} {v : Value} {xs : List Value} (h : w.ownsRow base e size v n xs) (hb : base' ≤ base) : w.ownsRow base' e size v n xs :=
  ⟨h.1, h.2.imp id fun ⟨g, cap, cur, a1, a2, a3⟩ => ⟨g, cap, cur, a1, Nat.le_trans hb a2, a3⟩⟩

theorem st_thaw {W : World} {b : Nat} {V : Array Value} {t : TypeId} (h : W.heap[b]? = some (.cells V t)) (o : Nat) : W.frozen? ⟨b, o, none⟩ = false := by simp [World.frozen?, h]

theorem st_below {B : Nat} {a b c : World} (h : Below B a b) (hB : B ≤ a.heap.size) (k : Below b.heap.size b c) : Below B a c := h.trans (k.mono (Nat.le_trans hB h.size))

/-- The size that is asked of texts, of which some has been used already. -/
theorem sz_strs (ps : List (List UInt8)) (hs : ∀ p ∈ ps, p.length ≤ 9223372036854775807) (hn : ps.length ≤ 9223372036854775807) (k : Nat) (hk : k ≤ 1048576) (a : Value) (w : World) (ha : ArgAt w a ps) :
    Calls Tryd.prog 74 #[a, .int .i64 k] w fun e w' => (∃ r : Int, e = .returned (.int .i64 r) ∧ (r < 0 ∨ 0 ≤ r ∧ r + ((ps.length + total ps : Nat) : Int) = (k : Int))) ∧ Below w.heap.size w w' := by
  obtain ⟨p, c, rfl, hp⟩ := ha
  have HP := hid hp
  have HS := hid hs
  clear hp hs
  by_cases hl : ps.length ≤ k
  · go_enter Tryd.func74, Tryd.ntmps74
    go_wp2
    go_loopw [1, 5] (fun lv iv wr => ∃ i : Nat, ∃ r : Int, i ≤ ps.length ∧ iv = .int .i64 i ∧ lv = .int .i64 r ∧ 0 ≤ r ∧ r ≤ 1048576 ∧ Below w.heap.size w wr ∧ Hid (r = (k : Int) - (ps.length : Int) - (total (ps.take i) : Int))) (fun _ iv _ => ps.length - (RowKit.intOf iv).toNat)
    case atStart => exact ⟨0, _, Nat.zero_le _, rfl, rfl, by omega, by omega, Below.refl _ _, hid (by simp [total])⟩
    case round =>
      obtain ⟨i, r, hi, rfl, rfl, hr0, hr1, hbel, HR⟩ := hrel
      have HB := hid hbel
      by_cases hlt : i < ps.length
      · obtain ⟨ad, rfl, hbl, hc⟩ := HP.out i hlt
        have hc1 : wr.cell? (ad.add i) = some (.string ⟨ps[i].toArray⟩) := by rw [hbel.cell (p := ad.add i) (by rw [add_block]; exact hbl)]; exact hc
        have hx1 := HS.out ps[i] (List.getElem_mem hlt)
        have hx2 : (⟨ps[i].toArray⟩ : ByteArray).size = ps[i].length := by show ps[i].toArray.size = _; simp
        have HTK := hid (total_take ps i hlt)
        rw [← hx2] at hx1
        have HX := hid hx2
        clear hx2 hc
        generalize (⟨ps[i].toArray⟩ : ByteArray) = x at *
        clear hbel
        by_cases hneg : r - (x.size : Int) < 0
        · go_wp2
          go_ret
          exact ⟨⟨-1, rfl, Or.inl (by omega)⟩, HB.out⟩
        · go_wp2
          go_roundw
          case rel => exact ⟨i + 1, _, by omega, by go_num, rfl, by omega, by omega, HB.out, hid (by have := HR.out; rw [HTK.out, ← HX.out]; omega)⟩
          case measure => simp [RowKit.intOf]; omega
      · have hie : i = ps.length := by omega
        subst hie
        clear hbel
        go_wp2
        go_ret
        refine ⟨⟨r, rfl, Or.inr ⟨hr0, ?_⟩⟩, HB.out⟩
        have := HR.out
        rw [List.take_of_length_le (Nat.le_refl _)] at this
        omega
  · go_enter Tryd.func74, Tryd.ntmps74
    go_wp2
    go_ret
    exact ⟨⟨-1, rfl, Or.inl (by omega)⟩, Below.refl _ _⟩

end Go.Proofs.YtkpieeakiolomaaDoor

namespace Go.Proofs.YtkpieeakiolomaaDoor
open Go.RowKit
open Go.Lib (hid)

set_option maxRecDepth 20000 in
set_option maxHeartbeats 2000000 in
theorem sz_Table (x0 : ByteArray) (x1 : Int) (x2 : Int) (l3 : List NonceD) (z0 : x0.size ≤ 9223372036854775807) (n3 : l3.length ≤ maxLen) (k : Nat) (hk : k ≤ 1048576) (a3 : Value) (w : World) (h3 : FArg encNonce 2 w a3 l3) :
    Calls Tryd.prog 58 #[.agg #[.string x0, .int .i64 x1, .int .i64 x2, a3], .int .i64 k] w fun e w' => (∃ r : Int, e = .returned (.int .i64 r) ∧ (r < 0 ∨ 0 ≤ r ∧ r + ((x0.size + l3.length : Nat) : Int) = (k : Int))) ∧ Below w.heap.size w w' := by
  have H3 := hid h3
  have M3 := hid n3
  obtain ⟨p3, c3, rfl, t3⟩ := h3
  clear t3
  clear n3
  obtain ⟨W0, hW0⟩ : ∃ W0, W0 = w.alloc (.cells #[.string x0, .int .i64 x1, .int .i64 x2, .slice p3 l3.length c3] 39) := ⟨_, rfl⟩
  have HB0 : Hid (Below w.heap.size w W0) := hid (by rw [hW0]; exact (Below.refl _ _).alloc (Nat.le_refl _) _)
  have HC0 : Hid (W0.heap[w.heap.size]? = some (.cells #[.string x0, .int .i64 x1, .int .i64 x2, .slice p3 l3.length c3] 39)) := hid (by rw [hW0]; exact heap_alloc_new _ _)
  have hz0 : w.heap.size < W0.heap.size := by rw [hW0]; simp
  have HW0 := hid hW0
  clear hW0
  go_enter Tryd.func58, Tryd.ntmps58
  by_cases g0 : x0.size ≤ k
  · have d0 : ¬ (k : Int) - (x0.size : Int) < 0 := by omega
    have CZ3 := hid (fun a W hW => sz_Nonces l3 M3.out (k - x0.size) (by omega) a W hW)
    rw [show (((k - x0.size) : Nat) : Int) = (k : Int) - (x0.size : Int) by omega] at CZ3
    go_wp2_with (go_at_call 107; rw [← HW0.out]; refine (CZ3.out _ _ (H3.out.on HB0.out)).mono ?_; rintro e w1 ⟨⟨r3, rfl, hr3⟩, hb1⟩; refine Hid.out ?_)
    refine hid ?_
    have HB1 := hid (HB0.out.trans (hb1.mono HB0.out.size))
    have HC1 := hid ((hb1.block _ (by omega)).trans HC0.out)
    have hz1 := hb1.size
    clear hb1
    have k0 := (cell_of_row _ _ 0 _ _ _ HC1.out).trans rfl
    have k1 := (cell_of_row _ _ 1 _ _ _ HC1.out).trans rfl
    have k2 := (cell_of_row _ _ 2 _ _ _ HC1.out).trans rfl
    have k3 := (cell_of_row _ _ 3 _ _ _ HC1.out).trans rfl
    rcases hr3 with hr3 | ⟨hr3, ht3⟩
    · skip
      go_wp2
      go_ret
      exact ⟨⟨-1, rfl, Or.inl (by omega)⟩, HB1.out⟩
    · obtain ⟨z3r, rfl⟩ := Int.eq_ofNat_of_zero_le hr3
      have hn3r : ¬ ((z3r : Nat) : Int) < 0 := by omega
      have HT3 := hid ht3
      clear ht3
      have hk3r : z3r ≤ 1048576 := by have := HT3.out; omega
      go_wp2
      go_ret
      exact ⟨⟨_, rfl, Or.inr ⟨by omega, by have := HT3.out; omega⟩⟩, HB1.out⟩
  · have d0 : (k : Int) - (x0.size : Int) < 0 := by omega
    go_wp2
    go_ret
    rw [← HW0.out]
    exact ⟨⟨-1, rfl, Or.inl (by omega)⟩, HB0.out⟩


set_option maxRecDepth 20000 in
set_option maxHeartbeats 2000000 in
theorem to_Table (x0 : ByteArray) (x1 : Int) (x2 : Int) (l3 : List NonceD) (n3 : l3.length ≤ 1048576) (a3 : Value) (w : World) (h3 : FArg encNonce 2 w a3 l3) :
    Calls Tryd.prog 63 #[.agg #[.string x0, .int .i64 x1, .int .i64 x2, a3]] w fun e w' => ∃ v3, e = .returned (.agg #[.string x0, .int .i64 x1, .int .i64 x2, v3]) ∧ Below w.heap.size w w' ∧ w'.ownsRow w.heap.size 151 2 (v3) l3.length (flat encNonce l3) := by
  have H3 := hid h3
  obtain ⟨p3, c3, rfl, t3⟩ := h3
  clear t3
  obtain ⟨W0, hW0⟩ : ∃ W0, W0 = ((w.alloc (.cells #[.string x0, .int .i64 x1, .int .i64 x2, .slice p3 l3.length c3] 39)).alloc (.cells #[.string ⟨#[]⟩, .int .i64 0, .int .i64 0, .slice none 0 0] 49)).alloc (.cells #[.string x0, .int .i64 x1, .int .i64 x2, .slice none 0 0] 49) := ⟨_, rfl⟩
  have K0 : Hid (Below w.heap.size w W0) := hid (by rw [hW0]; exact (((Below.refl _ _).alloc (Nat.le_refl _) _).alloc (by simp) _).alloc (by simp; omega) _)
  have V0 : Hid (W0.heap[w.heap.size]? = some (.cells #[.string x0, .int .i64 x1, .int .i64 x2, .slice p3 l3.length c3] 39)) := hid (by rw [hW0]; exact st_first _ _ _)
  have R0 : Hid (W0.heap[w.heap.size + 1]? = some (.cells #[.string ⟨#[]⟩, .int .i64 0, .int .i64 0, .slice none 0 0] 49)) := hid (by rw [hW0]; exact st_mid _ _ _)
  have O0 : Hid (W0.heap[w.heap.size + 1 + 1]? = some (.cells #[.string x0, .int .i64 x1, .int .i64 x2, .slice none 0 0] 49)) := hid (by rw [hW0]; exact st_last _ _ _)
  have hz0 : w.heap.size + 1 + 1 < W0.heap.size := by rw [hW0]; simp
  have HW0 := hid hW0
  clear hW0
  go_enter Tryd.func63, Tryd.ntmps63
  go_wp2_with (go_at_call 111; rw [← HW0.out]; refine (to_Nonces l3 n3 _ _ (H3.out.on K0.out)).mono ?_; rintro e w1 ⟨rfl, hb1, ho3⟩; refine Hid.out ?_)
  refine hid ?_
  have HSB1 := hid hb1.size
  have K1 := hid (st_below K0.out (Nat.le_refl _) hb1)
  have V1 := hid ((hb1.block _ (by omega)).trans V0.out)
  have R1 := hid ((hb1.block _ (by omega)).trans R0.out)
  have O1 := hid ((hb1.block _ (by omega)).trans O0.out)
  have G3_1 := hid ho3
  have L3 := hid ho3.lt
  have hz1 : w.heap.size + 1 + 1 < w1.heap.size := Nat.lt_of_lt_of_le hz0 hb1.size
  clear hb1 ho3
  have k0 := (cell_of_row _ _ 0 _ _ _ V1.out).trans rfl
  have k1 := (cell_of_row _ _ 1 _ _ _ V1.out).trans rfl
  have k2 := (cell_of_row _ _ 2 _ _ _ V1.out).trans rfl
  have k3 := (cell_of_row _ _ 3 _ _ _ V1.out).trans rfl
  have j0 := (cell_of_row _ _ 0 _ _ _ O1.out).trans rfl
  have j1 := (cell_of_row _ _ 1 _ _ _ O1.out).trans rfl
  have j2 := (cell_of_row _ _ 2 _ _ _ O1.out).trans rfl
  have j3 := (cell_of_row _ _ 3 _ _ _ O1.out).trans rfl
  have f0 := st_thaw O1.out 0
  have f1 := st_thaw O1.out 1
  have f2 := st_thaw O1.out 2
  have f3 := st_thaw O1.out 3
  have r0 := (cell_of_row _ _ 0 _ _ _ R1.out).trans rfl
  have r1 := (cell_of_row _ _ 1 _ _ _ R1.out).trans rfl
  have r2 := (cell_of_row _ _ 2 _ _ _ R1.out).trans rfl
  have r3 := (cell_of_row _ _ 3 _ _ _ R1.out).trans rfl
  have g0 := st_thaw R1.out 0
  have g1 := st_thaw R1.out 1
  have g2 := st_thaw R1.out 2
  have g3 := st_thaw R1.out 3
  go_wp2
  refine bodyPost_ret (v := .agg #[.string x0, .int .i64 x1, .int .i64 x2, .slice (some ⟨W0.heap.size, 0, none⟩) l3.length l3.length]) (by simp [results, Tryd.results63, go_sem, r0, r1, r2, r3]) rfl ⟨.slice (some ⟨W0.heap.size, 0, none⟩) l3.length l3.length, rfl, ?_, ?_⟩
  · exact (((((K1.out.setCell (p := ⟨w.heap.size + 1 + 1, 3, none⟩) (by show w.heap.size ≤ w.heap.size + 1 + 1; omega) _).setCell (p := ⟨w.heap.size + 1, 0, none⟩) (by show w.heap.size ≤ w.heap.size + 1; omega) _).setCell (p := ⟨w.heap.size + 1, 1, none⟩) (by show w.heap.size ≤ w.heap.size + 1; omega) _).setCell (p := ⟨w.heap.size + 1, 2, none⟩) (by show w.heap.size ≤ w.heap.size + 1; omega) _).setCell (p := ⟨w.heap.size + 1, 3, none⟩) (by show w.heap.size ≤ w.heap.size + 1; omega) _)
  · have hne1 : (.slice (some ⟨W0.heap.size, 0, none⟩) l3.length l3.length : Value).ownBlock ≠ some (w.heap.size + 1 + 1) := fun e => by have := (L3.out _ e).1; omega
    have hne2 : (.slice (some ⟨W0.heap.size, 0, none⟩) l3.length l3.length : Value).ownBlock ≠ some (w.heap.size + 1) := fun e => by have := (L3.out _ e).1; omega
    exact (ownsRow_setCell_other (ownsRow_setCell_other (ownsRow_setCell_other (ownsRow_setCell_other (ownsRow_setCell_other (st_lower G3_1.out (by first | exact Nat.le_refl _ | omega)) (a := ⟨w.heap.size + 1 + 1, 3, none⟩) hne1 _) (a := ⟨w.heap.size + 1, 0, none⟩) hne2 _) (a := ⟨w.heap.size + 1, 1, none⟩) hne2 _) (a := ⟨w.heap.size + 1, 2, none⟩) hne2 _) (a := ⟨w.heap.size + 1, 3, none⟩) hne2 _)


set_option maxRecDepth 20000 in
set_option maxHeartbeats 2000000 in
theorem eq_Table (x0 : ByteArray) (x1 : Int) (x2 : Int) (l3 : List NonceD) (n3 : l3.length ≤ 100000000) (a3 b3 : Value) (w : World) (h3 : FRow encNonce 2 w a3 l3) (i3 : FRow encNonce 2 w b3 l3) :
    Calls Tryd.prog 68 #[.agg #[.string x0, .int .i64 x1, .int .i64 x2, a3], .agg #[.string x0, .int .i64 x1, .int .i64 x2, b3]] w fun e w' => e = .returned (.bool true) ∧ Below w.heap.size w w' := by
  have HA3 := hid h3
  have HI3 := hid i3
  obtain ⟨p3, c3, rfl, _, _⟩ := h3
  obtain ⟨q3, d3, rfl, _, _⟩ := i3
  obtain ⟨W0, hW0⟩ : ∃ W0, W0 = (w.alloc (.cells #[.string x0, .int .i64 x1, .int .i64 x2, .slice p3 l3.length c3] 49)).alloc (.cells #[.string x0, .int .i64 x1, .int .i64 x2, .slice q3 l3.length d3] 49) := ⟨_, rfl⟩
  have K0 : Hid (Below w.heap.size w W0) := hid (by rw [hW0]; exact ((Below.refl _ _).alloc (Nat.le_refl _) _).alloc (by simp) _)
  have V0 : Hid (W0.heap[w.heap.size]? = some (.cells #[.string x0, .int .i64 x1, .int .i64 x2, .slice p3 l3.length c3] 49)) := hid (by rw [hW0]; exact st_one _ _)
  have U0 : Hid (W0.heap[w.heap.size + 1]? = some (.cells #[.string x0, .int .i64 x1, .int .i64 x2, .slice q3 l3.length d3] 49)) := hid (by rw [hW0]; exact st_two _ _)
  have hz0 : w.heap.size + 1 < W0.heap.size := by rw [hW0]; simp
  have hy0 : (x0.toList == x0.toList) = true := by simp
  have hn0 : (x0.toList != x0.toList) = false := by simp
  have HW0 := hid hW0
  clear hW0
  go_enter Tryd.func68, Tryd.ntmps68
  go_wp2_with (go_at_call 115; rw [← HW0.out]; refine (eq_Nonces l3 n3 _ _ _ (HA3.out.on K0.out) (HI3.out.on K0.out)).mono ?_; rintro e w1 ⟨rfl, hb1⟩; refine Hid.out ?_)
  refine hid ?_
  have K1 := hid (st_below K0.out (Nat.le_refl _) hb1)
  have V1 := hid ((hb1.block _ (by omega)).trans V0.out)
  have U1 := hid ((hb1.block _ (by omega)).trans U0.out)
  have hz1 := hb1.size
  clear hb1
  have k0 := (cell_of_row _ _ 0 _ _ _ V1.out).trans rfl
  have k1 := (cell_of_row _ _ 1 _ _ _ V1.out).trans rfl
  have k2 := (cell_of_row _ _ 2 _ _ _ V1.out).trans rfl
  have k3 := (cell_of_row _ _ 3 _ _ _ V1.out).trans rfl
  have j0 := (cell_of_row _ _ 0 _ _ _ U1.out).trans rfl
  have j1 := (cell_of_row _ _ 1 _ _ _ U1.out).trans rfl
  have j2 := (cell_of_row _ _ 2 _ _ _ U1.out).trans rfl
  have j3 := (cell_of_row _ _ 3 _ _ _ U1.out).trans rfl
  go_wp2
  go_ret
  exact ⟨rfl, K1.out⟩


end Go.Proofs.YtkpieeakiolomaaDoor

namespace Go.Proofs.YtkpieeakiolomaaDoor
open Go.RowKit
open Go.Lib (hid)

set_option maxRecDepth 20000 in
set_option maxHeartbeats 2000000 in
theorem sz_Policy (x0 : Int) (l1 : List RefD) (l2 : List (List UInt8)) (s1 : ∀ e ∈ l1, tameRef e) (n1 : l1.length ≤ maxLen) (s2 : ∀ p ∈ l2, p.length ≤ 9223372036854775807) (n2 : l2.length ≤ 9223372036854775807) (k : Nat) (hk : k ≤ 1048576) (a1 : Value) (a2 : Value) (w : World) (h1 : FArg encRef 3 w a1 l1) (h2 : ArgAt w a2 l2) :
    Calls Tryd.prog 57 #[.agg #[.int .i64 x0, a1, a2], .int .i64 k] w fun e w' => (∃ r : Int, e = .returned (.int .i64 r) ∧ (r < 0 ∨ 0 ≤ r ∧ r + (((l1.length + used szRefN l1) + (l2.length + total l2) : Nat) : Int) = (k : Int))) ∧ Below w.heap.size w w' := by
  have H1 := hid h1
  have H2 := hid h2
  have S1 := hid s1
  have M1 := hid n1
  have S2 := hid s2
  obtain ⟨p1, c1, rfl, t1⟩ := h1
  clear t1
  obtain ⟨p2, c2, rfl, t2⟩ := h2
  clear t2
  clear s1 s2 n1
  obtain ⟨W0, hW0⟩ : ∃ W0, W0 = w.alloc (.cells #[.int .i64 x0, .slice p1 l1.length c1, .slice p2 l2.length c2] 36) := ⟨_, rfl⟩
  have HB0 : Hid (Below w.heap.size w W0) := hid (by rw [hW0]; exact (Below.refl _ _).alloc (Nat.le_refl _) _)
  have HC0 : Hid (W0.heap[w.heap.size]? = some (.cells #[.int .i64 x0, .slice p1 l1.length c1, .slice p2 l2.length c2] 36)) := hid (by rw [hW0]; exact heap_alloc_new _ _)
  have hz0 : w.heap.size < W0.heap.size := by rw [hW0]; simp
  have HW0 := hid hW0
  clear hW0
  go_enter Tryd.func57, Tryd.ntmps57
  have CZ1 := hid (fun a W hW => sz_Refs l1 S1.out M1.out k (by omega) a W hW)
  go_wp2_with (go_at_call 106; rw [← HW0.out]; refine (CZ1.out _ _ (H1.out.on HB0.out)).mono ?_; rintro e w1 ⟨⟨r1, rfl, hr1⟩, hb1⟩; refine Hid.out ?_)
  refine hid ?_
  have HB1 := hid (HB0.out.trans (hb1.mono HB0.out.size))
  have HC1 := hid ((hb1.block _ (by omega)).trans HC0.out)
  have hz1 := hb1.size
  clear hb1
  have k0 := (cell_of_row _ _ 0 _ _ _ HC1.out).trans rfl
  have k1 := (cell_of_row _ _ 1 _ _ _ HC1.out).trans rfl
  have k2 := (cell_of_row _ _ 2 _ _ _ HC1.out).trans rfl
  rcases hr1 with hr1 | ⟨hr1, ht1⟩
  · skip
    go_wp2
    go_ret
    exact ⟨⟨-1, rfl, Or.inl (by omega)⟩, HB1.out⟩
  · obtain ⟨z1r, rfl⟩ := Int.eq_ofNat_of_zero_le hr1
    have hn1r : ¬ ((z1r : Nat) : Int) < 0 := by omega
    have HT1 := hid ht1
    clear ht1
    have hk1r : z1r ≤ 1048576 := by have := HT1.out; omega
    have CZ2 := hid (fun a W hW => sz_strs l2 S2.out n2 z1r (by omega) a W hW)
    go_wp2_with (go_at_call 74; refine (CZ2.out _ _ (H2.out.on HB1.out)).mono ?_; rintro e w2 ⟨⟨r2, rfl, hr2⟩, hb2⟩; refine Hid.out ?_)
    refine hid ?_
    have HB2 := hid (HB1.out.trans (hb2.mono HB1.out.size))
    have HC2 := hid ((hb2.block _ (by omega)).trans HC1.out)
    have hz2 := hb2.size
    clear hb2
    clear k0 k1 k2
    have k0 := (cell_of_row _ _ 0 _ _ _ HC2.out).trans rfl
    have k1 := (cell_of_row _ _ 1 _ _ _ HC2.out).trans rfl
    have k2 := (cell_of_row _ _ 2 _ _ _ HC2.out).trans rfl
    rcases hr2 with hr2 | ⟨hr2, ht2⟩
    · skip
      go_wp2
      go_ret
      exact ⟨⟨-1, rfl, Or.inl (by omega)⟩, HB2.out⟩
    · obtain ⟨z2r, rfl⟩ := Int.eq_ofNat_of_zero_le hr2
      have hn2r : ¬ ((z2r : Nat) : Int) < 0 := by omega
      have HT2 := hid ht2
      clear ht2
      have hk2r : z2r ≤ 1048576 := by have := HT2.out; omega
      go_wp2
      go_ret
      exact ⟨⟨_, rfl, Or.inr ⟨by omega, by have := HT1.out; have := HT2.out; omega⟩⟩, HB2.out⟩


set_option maxRecDepth 20000 in
set_option maxHeartbeats 2000000 in
theorem to_Policy (x0 : Int) (l1 : List RefD) (l2 : List (List UInt8)) (n1 : l1.length ≤ 1048576) (n2 : l2.length ≤ 1048576) (a1 : Value) (a2 : Value) (w : World) (h1 : FArg encRef 3 w a1 l1) (h2 : ArgAt w a2 l2) :
    Calls Tryd.prog 62 #[.agg #[.int .i64 x0, a1, a2]] w fun e w' => ∃ v1 v2, e = .returned (.agg #[.int .i64 x0, v1, v2]) ∧ Below w.heap.size w w' ∧ w'.ownsRow w.heap.size 149 3 (v1) l1.length (flat encRef l1) ∧ w'.ownsRow w.heap.size 9 1 (v2) l2.length (strs l2) ∧ (∀ j k, v1.ownBlock = some j → v2.ownBlock = some k → j < k) := by
  have H1 := hid h1
  have H2 := hid h2
  obtain ⟨p1, c1, rfl, t1⟩ := h1
  clear t1
  obtain ⟨p2, c2, rfl, t2⟩ := h2
  clear t2
  obtain ⟨W0, hW0⟩ : ∃ W0, W0 = ((w.alloc (.cells #[.int .i64 x0, .slice p1 l1.length c1, .slice p2 l2.length c2] 36)).alloc (.cells #[.int .i64 0, .slice none 0 0, .slice none 0 0] 46)).alloc (.cells #[.int .i64 x0, .slice none 0 0, .slice none 0 0] 46) := ⟨_, rfl⟩
  have K0 : Hid (Below w.heap.size w W0) := hid (by rw [hW0]; exact (((Below.refl _ _).alloc (Nat.le_refl _) _).alloc (by simp) _).alloc (by simp; omega) _)
  have V0 : Hid (W0.heap[w.heap.size]? = some (.cells #[.int .i64 x0, .slice p1 l1.length c1, .slice p2 l2.length c2] 36)) := hid (by rw [hW0]; exact st_first _ _ _)
  have R0 : Hid (W0.heap[w.heap.size + 1]? = some (.cells #[.int .i64 0, .slice none 0 0, .slice none 0 0] 46)) := hid (by rw [hW0]; exact st_mid _ _ _)
  have O0 : Hid (W0.heap[w.heap.size + 1 + 1]? = some (.cells #[.int .i64 x0, .slice none 0 0, .slice none 0 0] 46)) := hid (by rw [hW0]; exact st_last _ _ _)
  have hz0 : w.heap.size + 1 + 1 < W0.heap.size := by rw [hW0]; simp
  have HW0 := hid hW0
  clear hW0
  go_enter Tryd.func62, Tryd.ntmps62
  go_wp2_with (go_at_call 110; rw [← HW0.out]; refine (to_Refs l1 n1 _ _ (H1.out.on K0.out)).mono ?_; rintro e w1 ⟨rfl, hb1, ho1⟩; refine Hid.out ?_)
  refine hid ?_
  have HSB1 := hid hb1.size
  have K1 := hid (st_below K0.out (Nat.le_refl _) hb1)
  have V1 := hid ((hb1.block _ (by omega)).trans V0.out)
  have R1 := hid ((hb1.block _ (by omega)).trans R0.out)
  have O1 := hid ((hb1.block _ (by omega)).trans O0.out)
  have G1_1 := hid ho1
  have L1 := hid ho1.lt
  have hz1 : w.heap.size + 1 + 1 < w1.heap.size := Nat.lt_of_lt_of_le hz0 hb1.size
  clear hb1 ho1
  have k0 := (cell_of_row _ _ 0 _ _ _ V1.out).trans rfl
  have k1 := (cell_of_row _ _ 1 _ _ _ V1.out).trans rfl
  have k2 := (cell_of_row _ _ 2 _ _ _ V1.out).trans rfl
  have j0 := (cell_of_row _ _ 0 _ _ _ O1.out).trans rfl
  have j1 := (cell_of_row _ _ 1 _ _ _ O1.out).trans rfl
  have j2 := (cell_of_row _ _ 2 _ _ _ O1.out).trans rfl
  have f0 := st_thaw O1.out 0
  have f1 := st_thaw O1.out 1
  have f2 := st_thaw O1.out 2
  obtain ⟨W1, hW1⟩ : ∃ W, W = (w1.setCell ⟨w.heap.size + 1 + 1, 1, none⟩ (.slice (some ⟨W0.heap.size, 0, none⟩) l1.length l1.length)) := ⟨_, rfl⟩
  have hs1 := ((Below.refl (w.heap.size + 1 + 1) w1).setCell (p := ⟨w.heap.size + 1 + 1, 1, none⟩) (Nat.le_refl _) (.slice (some ⟨W0.heap.size, 0, none⟩) l1.length l1.length))
  rw [← hW1] at hs1
  have K1s : Hid (Below w.heap.size w W1) := hid (by rw [hW1]; exact (K1.out.setCell (p := ⟨w.heap.size + 1 + 1, 1, none⟩) (by show w.heap.size ≤ w.heap.size + 1 + 1; omega) _))
  have V1s := hid ((hs1.block w.heap.size (by omega)).trans V1.out)
  have R1s := hid ((hs1.block (w.heap.size + 1) (by omega)).trans R1.out)
  have O1s : Hid (W1.heap[w.heap.size + 1 + 1]? = some (.cells #[.int .i64 x0, .slice (some ⟨W0.heap.size, 0, none⟩) l1.length l1.length, .slice none 0 0] 46)) := hid (by rw [hW1]; exact (heap_setCell_same _ (w.heap.size + 1 + 1) 1 _ _ (.slice (some ⟨W0.heap.size, 0, none⟩) l1.length l1.length) O1.out))
  have G1_1s := hid (by
    have hne : (.slice (some ⟨W0.heap.size, 0, none⟩) l1.length l1.length : Value).ownBlock ≠ some (w.heap.size + 1 + 1) := fun e => by have := (L1.out _ e).1; omega
    exact (ownsRow_setCell_other G1_1.out (a := ⟨w.heap.size + 1 + 1, 1, none⟩) hne (.slice (some ⟨W0.heap.size, 0, none⟩) l1.length l1.length)))
  rw [← hW1] at G1_1s
  have hz1s : w.heap.size + 1 + 1 < W1.heap.size := Nat.lt_of_lt_of_le hz1 hs1.size
  have HW1 := hid hW1
  have HSZ1 := hid hs1.size
  clear hW1 hs1
  clear K1
  have K1 := K1s
  clear V1
  have V1 := V1s
  clear R1
  have R1 := R1s
  clear O1
  have O1 := O1s
  clear G1_1
  have G1_1 := G1_1s
  clear hz1
  have hz1 := hz1s
  go_wp2_with (go_at_call 76; rw [← HW1.out]; refine (to_calls l2 n2 _ _ (H2.out.on K1.out)).mono ?_; rintro e w2 ⟨sv2, rfl, hb2, ho2⟩; refine Hid.out ?_)
  refine hid ?_
  obtain ⟨q2, d2, rfl, _⟩ := own_shape ho2
  have HSB2 := hid hb2.size
  have K2 := hid (st_below K1.out (Nat.le_refl _) hb2)
  have V2 := hid ((hb2.block _ (by omega)).trans V1.out)
  have R2 := hid ((hb2.block _ (by omega)).trans R1.out)
  have O2 := hid ((hb2.block _ (by omega)).trans O1.out)
  have G1_2 := hid (own_below G1_1.out hb2)
  have G2_2 := hid ho2
  have L2 := hid ho2.lt
  have hz2 : w.heap.size + 1 + 1 < w2.heap.size := Nat.lt_of_lt_of_le hz1 hb2.size
  clear hb2 ho2
  clear k0 k1 k2 j0 j1 j2 f0 f1 f2
  have k0 := (cell_of_row _ _ 0 _ _ _ V2.out).trans rfl
  have k1 := (cell_of_row _ _ 1 _ _ _ V2.out).trans rfl
  have k2 := (cell_of_row _ _ 2 _ _ _ V2.out).trans rfl
  have j0 := (cell_of_row _ _ 0 _ _ _ O2.out).trans rfl
  have j1 := (cell_of_row _ _ 1 _ _ _ O2.out).trans rfl
  have j2 := (cell_of_row _ _ 2 _ _ _ O2.out).trans rfl
  have f0 := st_thaw O2.out 0
  have f1 := st_thaw O2.out 1
  have f2 := st_thaw O2.out 2
  have r0 := (cell_of_row _ _ 0 _ _ _ R2.out).trans rfl
  have r1 := (cell_of_row _ _ 1 _ _ _ R2.out).trans rfl
  have r2 := (cell_of_row _ _ 2 _ _ _ R2.out).trans rfl
  have g0 := st_thaw R2.out 0
  have g1 := st_thaw R2.out 1
  have g2 := st_thaw R2.out 2
  go_wp2
  refine bodyPost_ret (v := .agg #[.int .i64 x0, .slice (some ⟨W0.heap.size, 0, none⟩) l1.length l1.length, .slice q2 l2.length d2]) (by simp [results, Tryd.results62, go_sem, r0, r1, r2]) rfl ⟨.slice (some ⟨W0.heap.size, 0, none⟩) l1.length l1.length, .slice q2 l2.length d2, rfl, ?_, ?_, ?_, fun j k hj hk => Nat.lt_of_lt_of_le (L1.out j hj).2 (Nat.le_trans (by have := HSZ1.out; have := HSB1.out; have := HSB2.out; omega) (L2.out k hk).1)⟩
  · exact ((((K2.out.setCell (p := ⟨w.heap.size + 1 + 1, 2, none⟩) (by show w.heap.size ≤ w.heap.size + 1 + 1; omega) _).setCell (p := ⟨w.heap.size + 1, 0, none⟩) (by show w.heap.size ≤ w.heap.size + 1; omega) _).setCell (p := ⟨w.heap.size + 1, 1, none⟩) (by show w.heap.size ≤ w.heap.size + 1; omega) _).setCell (p := ⟨w.heap.size + 1, 2, none⟩) (by show w.heap.size ≤ w.heap.size + 1; omega) _)
  · have hne1 : (.slice (some ⟨W0.heap.size, 0, none⟩) l1.length l1.length : Value).ownBlock ≠ some (w.heap.size + 1 + 1) := fun e => by have := (L1.out _ e).1; omega
    have hne2 : (.slice (some ⟨W0.heap.size, 0, none⟩) l1.length l1.length : Value).ownBlock ≠ some (w.heap.size + 1) := fun e => by have := (L1.out _ e).1; omega
    exact (ownsRow_setCell_other (ownsRow_setCell_other (ownsRow_setCell_other (ownsRow_setCell_other (st_lower G1_2.out (by first | exact Nat.le_refl _ | omega)) (a := ⟨w.heap.size + 1 + 1, 2, none⟩) hne1 _) (a := ⟨w.heap.size + 1, 0, none⟩) hne2 _) (a := ⟨w.heap.size + 1, 1, none⟩) hne2 _) (a := ⟨w.heap.size + 1, 2, none⟩) hne2 _)
  · have hne1 : (.slice q2 l2.length d2 : Value).ownBlock ≠ some (w.heap.size + 1 + 1) := fun e => by have := (L2.out _ e).1; omega
    have hne2 : (.slice q2 l2.length d2 : Value).ownBlock ≠ some (w.heap.size + 1) := fun e => by have := (L2.out _ e).1; omega
    exact (ownsRow_setCell_other (ownsRow_setCell_other (ownsRow_setCell_other (ownsRow_setCell_other (st_lower G2_2.out (by first | exact Nat.le_refl _ | omega)) (a := ⟨w.heap.size + 1 + 1, 2, none⟩) hne1 _) (a := ⟨w.heap.size + 1, 0, none⟩) hne2 _) (a := ⟨w.heap.size + 1, 1, none⟩) hne2 _) (a := ⟨w.heap.size + 1, 2, none⟩) hne2 _)


set_option maxRecDepth 20000 in
set_option maxHeartbeats 2000000 in
theorem eq_Policy (x0 : Int) (l1 : List RefD) (l2 : List (List UInt8)) (n1 : l1.length ≤ 100000000) (n2 : l2.length ≤ 1000000000) (a1 b1 : Value) (a2 b2 : Value) (w : World) (h1 : FRow encRef 3 w a1 l1) (h2 : TextsAt w a2 l2) (i1 : FRow encRef 3 w b1 l1) (i2 : TextsAt w b2 l2) :
    Calls Tryd.prog 67 #[.agg #[.int .i64 x0, a1, a2], .agg #[.int .i64 x0, b1, b2]] w fun e w' => e = .returned (.bool true) ∧ Below w.heap.size w w' := by
  have HA1 := hid h1
  have HI1 := hid i1
  have HA2 := hid h2
  have HI2 := hid i2
  obtain ⟨p1, c1, rfl, _, _⟩ := h1
  obtain ⟨q1, d1, rfl, _, _⟩ := i1
  obtain ⟨p2, c2, rfl, _⟩ := h2
  obtain ⟨q2, d2, rfl, _⟩ := i2
  obtain ⟨W0, hW0⟩ : ∃ W0, W0 = (w.alloc (.cells #[.int .i64 x0, .slice p1 l1.length c1, .slice p2 l2.length c2] 46)).alloc (.cells #[.int .i64 x0, .slice q1 l1.length d1, .slice q2 l2.length d2] 46) := ⟨_, rfl⟩
  have K0 : Hid (Below w.heap.size w W0) := hid (by rw [hW0]; exact ((Below.refl _ _).alloc (Nat.le_refl _) _).alloc (by simp) _)
  have V0 : Hid (W0.heap[w.heap.size]? = some (.cells #[.int .i64 x0, .slice p1 l1.length c1, .slice p2 l2.length c2] 46)) := hid (by rw [hW0]; exact st_one _ _)
  have U0 : Hid (W0.heap[w.heap.size + 1]? = some (.cells #[.int .i64 x0, .slice q1 l1.length d1, .slice q2 l2.length d2] 46)) := hid (by rw [hW0]; exact st_two _ _)
  have hz0 : w.heap.size + 1 < W0.heap.size := by rw [hW0]; simp
  have HW0 := hid hW0
  clear hW0
  go_enter Tryd.func67, Tryd.ntmps67
  go_wp2_with (go_at_call 114; rw [← HW0.out]; refine (eq_Refs l1 n1 _ _ _ (HA1.out.on K0.out) (HI1.out.on K0.out)).mono ?_; rintro e w1 ⟨rfl, hb1⟩; refine Hid.out ?_)
  refine hid ?_
  have K1 := hid (st_below K0.out (Nat.le_refl _) hb1)
  have V1 := hid ((hb1.block _ (by omega)).trans V0.out)
  have U1 := hid ((hb1.block _ (by omega)).trans U0.out)
  have hz1 := hb1.size
  clear hb1
  have k0 := (cell_of_row _ _ 0 _ _ _ V1.out).trans rfl
  have k1 := (cell_of_row _ _ 1 _ _ _ V1.out).trans rfl
  have k2 := (cell_of_row _ _ 2 _ _ _ V1.out).trans rfl
  have j0 := (cell_of_row _ _ 0 _ _ _ U1.out).trans rfl
  have j1 := (cell_of_row _ _ 1 _ _ _ U1.out).trans rfl
  have j2 := (cell_of_row _ _ 2 _ _ _ U1.out).trans rfl
  go_wp2_with (go_at_call 77; refine (eq_same l2 n2 _ _ _ (HA2.out.on K1.out) (HI2.out.on K1.out)).mono ?_; rintro e w2 ⟨rfl, hb2⟩; refine Hid.out ?_)
  refine hid ?_
  have K2 := hid (st_below K1.out (Nat.le_refl _) hb2)
  have V2 := hid ((hb2.block _ (by omega)).trans V1.out)
  have U2 := hid ((hb2.block _ (by omega)).trans U1.out)
  have hz2 := hb2.size
  clear hb2
  clear k0 k1 k2 j0 j1 j2
  have k0 := (cell_of_row _ _ 0 _ _ _ V2.out).trans rfl
  have k1 := (cell_of_row _ _ 1 _ _ _ V2.out).trans rfl
  have k2 := (cell_of_row _ _ 2 _ _ _ V2.out).trans rfl
  have j0 := (cell_of_row _ _ 0 _ _ _ U2.out).trans rfl
  have j1 := (cell_of_row _ _ 1 _ _ _ U2.out).trans rfl
  have j2 := (cell_of_row _ _ 2 _ _ _ U2.out).trans rfl
  go_wp2
  go_ret
  exact ⟨rfl, K2.out⟩


end Go.Proofs.YtkpieeakiolomaaDoor

namespace Go.Proofs.YtkpieeakiolomaaDoor
open Go.RowKit
open Go.Lib (hid)

theorem nine_cells {W : World} {b : Nat} {x0 x1 x2 x3 x4 x5 x6 x7 x8 : Value} {t : TypeId} (h : W.heap[b]? = some (.cells #[x0, x1, x2, x3, x4, x5, x6, x7, x8] t)) :
    W.cell? ⟨b, 0, none⟩ = some x0 ∧ W.cell? ⟨b, 1, none⟩ = some x1 ∧ W.cell? ⟨b, 2, none⟩ = some x2 ∧ W.cell? ⟨b, 3, none⟩ = some x3 ∧ W.cell? ⟨b, 4, none⟩ = some x4 ∧ W.cell? ⟨b, 5, none⟩ = some x5 ∧ W.cell? ⟨b, 6, none⟩ = some x6 ∧ W.cell? ⟨b, 7, none⟩ = some x7 ∧ W.cell? ⟨b, 8, none⟩ = some x8 :=
  ⟨(cell_of_row W b 0 _ _ _ h).trans rfl, (cell_of_row W b 1 _ _ _ h).trans rfl, (cell_of_row W b 2 _ _ _ h).trans rfl, (cell_of_row W b 3 _ _ _ h).trans rfl, (cell_of_row W b 4 _ _ _ h).trans rfl, (cell_of_row W b 5 _ _ _ h).trans rfl, (cell_of_row W b 6 _ _ _ h).trans rfl, (cell_of_row W b 7 _ _ _ h).trans rfl, (cell_of_row W b 8 _ _ _ h).trans rfl⟩

set_option maxRecDepth 20000 in
set_option maxHeartbeats 4000000 in
theorem sz_Verifier (s rt : ByteArray) (num : Int) (re : List RefD) (wd : List (List UInt8)) (tk : ByteArray) (now next : Int) (ne : List NonceD) (z0 : s.size ≤ 9223372036854775807) (z1 : rt.size ≤ 9223372036854775807) (s1 : ∀ e ∈ re, tameRef e) (n1 : re.length ≤ maxLen) (s2 : ∀ p ∈ wd, p.length ≤ 9223372036854775807) (n2 : wd.length ≤ 9223372036854775807) (z3 : tk.size ≤ 9223372036854775807) (n3 : ne.length ≤ maxLen) (k : Nat) (hk : k ≤ 1048576) (a1 a2 a3 : Value) (w : World) (h1 : FArg encRef 3 w a1 re) (h2 : ArgAt w a2 wd) (h3 : FArg encNonce 2 w a3 ne) :
    Calls Tryd.prog 18 #[.agg #[.string s, .string rt, .int .i64 num, a1, a2, .string tk, .int .i64 now, .int .i64 next, a3], .int .i64 k] w fun e w' => (∃ r : Int, e = .returned (.int .i64 r) ∧ (r < 0 ∨ 0 ≤ r ∧ r + ((s.size + rt.size + ((re.length + used szRefN re) + (wd.length + total wd)) + (tk.size + ne.length) : Nat) : Int) = (k : Int))) ∧ Below w.heap.size w w' := by
  have H1 := hid h1
  have H2 := hid h2
  have H3 := hid h3
  obtain ⟨p, c, rfl, t1⟩ := h1
  obtain ⟨q, d, rfl, t2⟩ := h2
  obtain ⟨u, v, rfl, t3⟩ := h3
  clear t1 t2 t3
  have CP := hid (fun (k : Nat) (hk : k ≤ 1048576) W h1 h2 => sz_Policy num re wd s1 n1 s2 n2 k hk (.slice p re.length c) (.slice q wd.length d) W h1 h2)
  have CT := hid (fun (k : Nat) (hk : k ≤ 1048576) W h3 => sz_Table tk now next ne z3 n3 k hk (.slice u ne.length v) W h3)
  clear s1 n1 s2 n2 z3 n3
  obtain ⟨W0, hW0⟩ : ∃ W0, W0 = w.alloc (.cells #[.string s, .string rt, .int .i64 num, .slice p re.length c, .slice q wd.length d, .string tk, .int .i64 now, .int .i64 next, .slice u ne.length v] 41) := ⟨_, rfl⟩
  have HB0 : Hid (Below w.heap.size w W0) := hid (by rw [hW0]; exact (Below.refl _ _).alloc (Nat.le_refl _) _)
  have HC0 : Hid (W0.heap[w.heap.size]? = some (.cells #[.string s, .string rt, .int .i64 num, .slice p re.length c, .slice q wd.length d, .string tk, .int .i64 now, .int .i64 next, .slice u ne.length v] 41)) := hid (by rw [hW0]; exact heap_alloc_new _ _)
  have hz0 : w.heap.size < W0.heap.size := by rw [hW0]; simp
  have HW0 := hid hW0
  clear hW0
  go_enter Tryd.func18, Tryd.ntmps18
  by_cases g0 : s.size ≤ k
  · have d0 : ¬ (k : Int) - (s.size : Int) < 0 := by omega
    by_cases g1 : s.size + rt.size ≤ k
    · have d1 : ¬ (k : Int) - (s.size : Int) - (rt.size : Int) < 0 := by omega
      have CP2 := hid (CP.out (k - s.size - rt.size) (by omega))
      rw [show ((k - s.size - rt.size : Nat) : Int) = (k : Int) - (s.size : Int) - (rt.size : Int) by omega] at CP2
      go_wp2_with (go_at_call 57; rw [← HW0.out]; refine (CP2.out _ (H1.out.on HB0.out) (H2.out.on HB0.out)).mono ?_; rintro e w1 ⟨⟨r3, rfl, hr3⟩, hb1⟩; refine Hid.out ?_)
      refine hid ?_
      have HB1 := hid (HB0.out.trans (hb1.mono HB0.out.size))
      have HC1 := hid ((hb1.block _ (by omega)).trans HC0.out)
      have hz1 := hb1.size
      clear hb1
      obtain ⟨k0, k1, k2, k3, k4, k5, k6, k7, k8⟩ := nine_cells HC1.out
      rcases hr3 with hr3 | ⟨hr3, ht3⟩
      · go_wp2
        go_ret
        exact ⟨⟨-1, rfl, Or.inl (by omega)⟩, HB1.out⟩
      · obtain ⟨zr, rfl⟩ := Int.eq_ofNat_of_zero_le hr3
        have hn3 : ¬ ((zr : Nat) : Int) < 0 := by omega
        have HT3 := hid ht3
        have hzr : zr ≤ 1048576 := by omega
        clear ht3
        have CT2 := hid (CT.out zr hzr)
        go_wp2_with (go_at_call 58; refine (CT2.out _ (H3.out.on HB1.out)).mono ?_; rintro e w2 ⟨⟨r4, rfl, hr4⟩, hb2⟩; refine Hid.out ?_)
        refine hid ?_
        have HB2 := hid (HB1.out.trans (hb2.mono HB1.out.size))
        clear hb2
        clear k0 k1 k2 k3 k4 k5 k6 k7 k8
        rcases hr4 with hr4 | ⟨hr4, ht4⟩
        · go_wp2
          go_ret
          exact ⟨⟨-1, rfl, Or.inl (by omega)⟩, HB2.out⟩
        · have hn4 : ¬ r4 < 0 := by omega
          go_wp2
          go_ret
          exact ⟨⟨_, rfl, Or.inr ⟨by omega, by have := HT3.out; omega⟩⟩, HB2.out⟩
    · have d1 : (k : Int) - (s.size : Int) - (rt.size : Int) < 0 := by omega
      go_wp2
      go_ret
      rw [← HW0.out]
      exact ⟨⟨-1, rfl, Or.inl (by omega)⟩, HB0.out⟩
  · have d0 : (k : Int) - (s.size : Int) < 0 := by omega
    go_wp2
    go_ret
    rw [← HW0.out]
    exact ⟨⟨-1, rfl, Or.inl (by omega)⟩, HB0.out⟩

set_option maxRecDepth 20000 in
set_option maxHeartbeats 4000000 in
theorem to_Verifier (s rt : ByteArray) (num : Int) (re : List RefD) (wd : List (List UInt8)) (tk : ByteArray) (now next : Int) (ne : List NonceD) (n1 : re.length ≤ 1048576) (n2 : wd.length ≤ 1048576) (n3 : ne.length ≤ 1048576) (a1 a2 a3 : Value) (w : World) (h1 : FArg encRef 3 w a1 re) (h2 : ArgAt w a2 wd) (h3 : FArg encNonce 2 w a3 ne) :
    Calls Tryd.prog 20 #[.agg #[.string s, .string rt, .int .i64 num, a1, a2, .string tk, .int .i64 now, .int .i64 next, a3]] w fun e w' => ∃ b1 b2 b3, e = .returned (.agg #[.string s, .string rt, .int .i64 num, b1, b2, .string tk, .int .i64 now, .int .i64 next, b3]) ∧ Below w.heap.size w w' ∧ FRow encRef 3 w' b1 re ∧ TextsAt w' b2 wd ∧ FRow encNonce 2 w' b3 ne := by
  have H1 := hid h1
  have H2 := hid h2
  have H3 := hid h3
  obtain ⟨p, c, rfl, t1⟩ := h1
  obtain ⟨q, d, rfl, t2⟩ := h2
  obtain ⟨u, v, rfl, t3⟩ := h3
  clear t1 t2 t3
  obtain ⟨W0, hW0⟩ : ∃ W0, W0 = ((w.alloc (.cells #[.string s, .string rt, .int .i64 num, .slice p re.length c, .slice q wd.length d, .string tk, .int .i64 now, .int .i64 next, .slice u ne.length v] 41)).alloc (.cells #[.string ⟨#[]⟩, .string ⟨#[]⟩, .int .i64 0, .slice none 0 0, .slice none 0 0, .string ⟨#[]⟩, .int .i64 0, .int .i64 0, .slice none 0 0] 51)).alloc (.cells #[.string s, .string rt, .int .i64 0, .slice none 0 0, .slice none 0 0, .string ⟨#[]⟩, .int .i64 0, .int .i64 0, .slice none 0 0] 51) := ⟨_, rfl⟩
  have K0 : Hid (Below w.heap.size w W0) := hid (by rw [hW0]; exact (((Below.refl _ _).alloc (Nat.le_refl _) _).alloc (by simp) _).alloc (by simp; omega) _)
  have V0 : Hid (W0.heap[w.heap.size]? = some (.cells #[.string s, .string rt, .int .i64 num, .slice p re.length c, .slice q wd.length d, .string tk, .int .i64 now, .int .i64 next, .slice u ne.length v] 41)) := hid (by rw [hW0]; exact st_first _ _ _)
  have R0 : Hid (W0.heap[w.heap.size + 1]? = some (.cells #[.string ⟨#[]⟩, .string ⟨#[]⟩, .int .i64 0, .slice none 0 0, .slice none 0 0, .string ⟨#[]⟩, .int .i64 0, .int .i64 0, .slice none 0 0] 51)) := hid (by rw [hW0]; exact st_mid _ _ _)
  have O0 : Hid (W0.heap[w.heap.size + 1 + 1]? = some (.cells #[.string s, .string rt, .int .i64 0, .slice none 0 0, .slice none 0 0, .string ⟨#[]⟩, .int .i64 0, .int .i64 0, .slice none 0 0] 51)) := hid (by rw [hW0]; exact st_last _ _ _)
  have hz0 : w.heap.size + 1 + 1 < W0.heap.size := by rw [hW0]; simp
  have HW0 := hid hW0
  clear hW0
  go_enter Tryd.func20, Tryd.ntmps20
  go_wp2_with (go_at_call 62; rw [← HW0.out]; refine (to_Policy num re wd n1 n2 _ _ _ (H1.out.on K0.out) (H2.out.on K0.out)).mono ?_; rintro e w1 ⟨b1, b2, rfl, hb1, ho1, ho2, _⟩; refine Hid.out ?_)
  refine hid ?_
  have K1 := hid (st_below K0.out (Nat.le_refl _) hb1)
  have V1 := hid ((hb1.block _ (by omega)).trans V0.out)
  have R1 := hid ((hb1.block _ (by omega)).trans R0.out)
  have O1 := hid ((hb1.block _ (by omega)).trans O0.out)
  have hz1 : w.heap.size + 1 + 1 < w1.heap.size := Nat.lt_of_lt_of_le hz0 hb1.size
  obtain ⟨p1, c1, rfl, _, _⟩ := row_of_own encRef_len ho1
  obtain ⟨q1, d1, rfl, _⟩ := texts_of ho2
  have G1 := hid (st_lower ho1 (show w.heap.size ≤ W0.heap.size by omega))
  have G2 := hid (st_lower ho2 (show w.heap.size ≤ W0.heap.size by omega))
  have L1 := hid ho1.lt
  have L2 := hid ho2.lt
  clear hb1 ho1 ho2
  have ne1 : (.slice p1 re.length c1 : Value).ownBlock ≠ some (w.heap.size + 1 + 1) := fun e => by have := (L1.out _ e).1; omega
  have ne2 : (.slice p1 re.length c1 : Value).ownBlock ≠ some (w.heap.size + 1) := fun e => by have := (L1.out _ e).1; omega
  have ne3 : (.slice q1 wd.length d1 : Value).ownBlock ≠ some (w.heap.size + 1 + 1) := fun e => by have := (L2.out _ e).1; omega
  have ne4 : (.slice q1 wd.length d1 : Value).ownBlock ≠ some (w.heap.size + 1) := fun e => by have := (L2.out _ e).1; omega
  obtain ⟨W2, hW2⟩ : ∃ W2, W2 = ((w1.setCell ⟨w.heap.size + 1 + 1, 2, none⟩ (.int .i64 num)).setCell ⟨w.heap.size + 1 + 1, 3, none⟩ (.slice p1 re.length c1)).setCell ⟨w.heap.size + 1 + 1, 4, none⟩ (.slice q1 wd.length d1) := ⟨_, rfl⟩
  have K2 : Hid (Below w.heap.size w W2) := hid (by rw [hW2]; exact (((K1.out.setCell (p := ⟨w.heap.size + 1 + 1, 2, none⟩) (by show w.heap.size ≤ w.heap.size + 1 + 1; omega) _).setCell (p := ⟨w.heap.size + 1 + 1, 3, none⟩) (by show w.heap.size ≤ w.heap.size + 1 + 1; omega) _).setCell (p := ⟨w.heap.size + 1 + 1, 4, none⟩) (by show w.heap.size ≤ w.heap.size + 1 + 1; omega) _))
  have KO : Hid (Below (w.heap.size + 1 + 1) w1 W2) := hid (by rw [hW2]; exact ((((Below.refl _ _).setCell (p := ⟨w.heap.size + 1 + 1, 2, none⟩) (by show w.heap.size + 1 + 1 ≤ w.heap.size + 1 + 1; omega) _).setCell (p := ⟨w.heap.size + 1 + 1, 3, none⟩) (by show w.heap.size + 1 + 1 ≤ w.heap.size + 1 + 1; omega) _).setCell (p := ⟨w.heap.size + 1 + 1, 4, none⟩) (by show w.heap.size + 1 + 1 ≤ w.heap.size + 1 + 1; omega) _))
  have V2 := hid ((KO.out.block _ (by omega)).trans V1.out)
  have R2 := hid ((KO.out.block _ (by omega)).trans R1.out)
  have O2 : Hid (W2.heap[w.heap.size + 1 + 1]? = some (.cells #[.string s, .string rt, .int .i64 num, .slice p1 re.length c1, .slice q1 wd.length d1, .string ⟨#[]⟩, .int .i64 0, .int .i64 0, .slice none 0 0] 51)) := hid (by rw [hW2]; exact heap_setCell_same _ _ 4 _ _ _ (heap_setCell_same _ _ 3 _ _ _ (heap_setCell_same w1 _ 2 _ _ _ O1.out)))
  have P1 : Hid (W2.ownsRow w.heap.size 149 3 (.slice p1 re.length c1) re.length (flat encRef re)) := hid (by rw [hW2]; exact (ownsRow_setCell_other (ownsRow_setCell_other (ownsRow_setCell_other G1.out (a := ⟨w.heap.size + 1 + 1, 2, none⟩) ne1 _) (a := ⟨w.heap.size + 1 + 1, 3, none⟩) ne1 _) (a := ⟨w.heap.size + 1 + 1, 4, none⟩) ne1 _))
  have P2 : Hid (W2.ownsRow w.heap.size 9 1 (.slice q1 wd.length d1) wd.length (strs wd)) := hid (by rw [hW2]; exact (ownsRow_setCell_other (ownsRow_setCell_other (ownsRow_setCell_other G2.out (a := ⟨w.heap.size + 1 + 1, 2, none⟩) ne3 _) (a := ⟨w.heap.size + 1 + 1, 3, none⟩) ne3 _) (a := ⟨w.heap.size + 1 + 1, 4, none⟩) ne3 _))
  have hz2 : W2.heap.size = w1.heap.size := by rw [hW2]; simp
  have HW2 := hid hW2
  obtain ⟨k0, k1, k2, k3, k4, k5, k6, k7, k8⟩ := nine_cells V1.out
  obtain ⟨j0, j1, j2, j3, j4, j5, j6, j7, j8⟩ := nine_cells O1.out
  have f0 := st_thaw O1.out 0
  have f1 := st_thaw O1.out 1
  have f2 := st_thaw O1.out 2
  have f3 := st_thaw O1.out 3
  have f4 := st_thaw O1.out 4
  have f5 := st_thaw O1.out 5
  have f6 := st_thaw O1.out 6
  have f7 := st_thaw O1.out 7
  have f8 := st_thaw O1.out 8
  have hz22 : w.heap.size + 1 + 1 < W2.heap.size := by omega
  have HZ2 := hid hz2
  clear hW2 hz2
  go_wp2_with (go_at_call 63; rw [← HW2.out]; refine (to_Table tk now next ne n3 _ _ (H3.out.on K2.out)).mono ?_; rintro e w3 ⟨b3, rfl, hb3, ho3⟩; refine Hid.out ?_)
  refine hid ?_
  have K3 := hid (K2.out.trans (hb3.mono K2.out.size))
  have R3 := hid ((hb3.block _ (by omega)).trans R2.out)
  have O3 := hid ((hb3.block _ (by omega)).trans O2.out)
  have Q1 := hid (own_below P1.out hb3)
  have Q2 := hid (own_below P2.out hb3)
  obtain ⟨u1, v1, rfl, _, _⟩ := row_of_own encNonce_len ho3
  have Q3 := hid (st_lower ho3 (show w.heap.size ≤ W2.heap.size by omega))
  have L3 := hid ho3.lt
  clear hb3 ho3
  have ne5 : (.slice u1 ne.length v1 : Value).ownBlock ≠ some (w.heap.size + 1 + 1) := fun e => by have := (L3.out _ e).1; omega
  have ne6 : (.slice u1 ne.length v1 : Value).ownBlock ≠ some (w.heap.size + 1) := fun e => by have := (L3.out _ e).1; omega
  clear k0 k1 k2 k3 k4 k5 k6 k7 k8
  clear j0 j1 j2 j3 j4 j5 j6 j7 j8
  clear f0 f1 f2 f3 f4 f5 f6 f7 f8
  obtain ⟨j0, j1, j2, j3, j4, j5, j6, j7, j8⟩ := nine_cells O3.out
  have f0 := st_thaw O3.out 0
  have f1 := st_thaw O3.out 1
  have f2 := st_thaw O3.out 2
  have f3 := st_thaw O3.out 3
  have f4 := st_thaw O3.out 4
  have f5 := st_thaw O3.out 5
  have f6 := st_thaw O3.out 6
  have f7 := st_thaw O3.out 7
  have f8 := st_thaw O3.out 8
  obtain ⟨r0, r1, r2, r3, r4, r5, r6, r7, r8⟩ := nine_cells R3.out
  have g0 := st_thaw R3.out 0
  have g1 := st_thaw R3.out 1
  have g2 := st_thaw R3.out 2
  have g3 := st_thaw R3.out 3
  have g4 := st_thaw R3.out 4
  have g5 := st_thaw R3.out 5
  have g6 := st_thaw R3.out 6
  have g7 := st_thaw R3.out 7
  have g8 := st_thaw R3.out 8
  go_wp2
  refine bodyPost_ret (v := .agg #[.string s, .string rt, .int .i64 num, .slice p1 re.length c1, .slice q1 wd.length d1, .string tk, .int .i64 now, .int .i64 next, .slice u1 ne.length v1]) (by simp [results, Tryd.results20, go_sem, r0, r1, r2, r3, r4, r5, r6, r7, r8]) rfl ⟨_, _, _, rfl, ?_, ?_, ?_, ?_⟩
  · exact (((((((((((((K3.out.setCell (p := ⟨w.heap.size + 1 + 1, 5, none⟩) (by show w.heap.size ≤ w.heap.size + 1 + 1; omega) _).setCell (p := ⟨w.heap.size + 1 + 1, 6, none⟩) (by show w.heap.size ≤ w.heap.size + 1 + 1; omega) _).setCell (p := ⟨w.heap.size + 1 + 1, 7, none⟩) (by show w.heap.size ≤ w.heap.size + 1 + 1; omega) _).setCell (p := ⟨w.heap.size + 1 + 1, 8, none⟩) (by show w.heap.size ≤ w.heap.size + 1 + 1; omega) _).setCell (p := ⟨w.heap.size + 1, 0, none⟩) (by show w.heap.size ≤ w.heap.size + 1; omega) _).setCell (p := ⟨w.heap.size + 1, 1, none⟩) (by show w.heap.size ≤ w.heap.size + 1; omega) _).setCell (p := ⟨w.heap.size + 1, 2, none⟩) (by show w.heap.size ≤ w.heap.size + 1; omega) _).setCell (p := ⟨w.heap.size + 1, 3, none⟩) (by show w.heap.size ≤ w.heap.size + 1; omega) _).setCell (p := ⟨w.heap.size + 1, 4, none⟩) (by show w.heap.size ≤ w.heap.size + 1; omega) _).setCell (p := ⟨w.heap.size + 1, 5, none⟩) (by show w.heap.size ≤ w.heap.size + 1; omega) _).setCell (p := ⟨w.heap.size + 1, 6, none⟩) (by show w.heap.size ≤ w.heap.size + 1; omega) _).setCell (p := ⟨w.heap.size + 1, 7, none⟩) (by show w.heap.size ≤ w.heap.size + 1; omega) _).setCell (p := ⟨w.heap.size + 1, 8, none⟩) (by show w.heap.size ≤ w.heap.size + 1; omega) _)
  · exact row_of_own encRef_len (ownsRow_setCell_other (ownsRow_setCell_other (ownsRow_setCell_other (ownsRow_setCell_other (ownsRow_setCell_other (ownsRow_setCell_other (ownsRow_setCell_other (ownsRow_setCell_other (ownsRow_setCell_other (ownsRow_setCell_other (ownsRow_setCell_other (ownsRow_setCell_other (ownsRow_setCell_other Q1.out (a := ⟨w.heap.size + 1 + 1, 5, none⟩) ne1 _) (a := ⟨w.heap.size + 1 + 1, 6, none⟩) ne1 _) (a := ⟨w.heap.size + 1 + 1, 7, none⟩) ne1 _) (a := ⟨w.heap.size + 1 + 1, 8, none⟩) ne1 _) (a := ⟨w.heap.size + 1, 0, none⟩) ne2 _) (a := ⟨w.heap.size + 1, 1, none⟩) ne2 _) (a := ⟨w.heap.size + 1, 2, none⟩) ne2 _) (a := ⟨w.heap.size + 1, 3, none⟩) ne2 _) (a := ⟨w.heap.size + 1, 4, none⟩) ne2 _) (a := ⟨w.heap.size + 1, 5, none⟩) ne2 _) (a := ⟨w.heap.size + 1, 6, none⟩) ne2 _) (a := ⟨w.heap.size + 1, 7, none⟩) ne2 _) (a := ⟨w.heap.size + 1, 8, none⟩) ne2 _)
  · exact texts_of (ownsRow_setCell_other (ownsRow_setCell_other (ownsRow_setCell_other (ownsRow_setCell_other (ownsRow_setCell_other (ownsRow_setCell_other (ownsRow_setCell_other (ownsRow_setCell_other (ownsRow_setCell_other (ownsRow_setCell_other (ownsRow_setCell_other (ownsRow_setCell_other (ownsRow_setCell_other Q2.out (a := ⟨w.heap.size + 1 + 1, 5, none⟩) ne3 _) (a := ⟨w.heap.size + 1 + 1, 6, none⟩) ne3 _) (a := ⟨w.heap.size + 1 + 1, 7, none⟩) ne3 _) (a := ⟨w.heap.size + 1 + 1, 8, none⟩) ne3 _) (a := ⟨w.heap.size + 1, 0, none⟩) ne4 _) (a := ⟨w.heap.size + 1, 1, none⟩) ne4 _) (a := ⟨w.heap.size + 1, 2, none⟩) ne4 _) (a := ⟨w.heap.size + 1, 3, none⟩) ne4 _) (a := ⟨w.heap.size + 1, 4, none⟩) ne4 _) (a := ⟨w.heap.size + 1, 5, none⟩) ne4 _) (a := ⟨w.heap.size + 1, 6, none⟩) ne4 _) (a := ⟨w.heap.size + 1, 7, none⟩) ne4 _) (a := ⟨w.heap.size + 1, 8, none⟩) ne4 _)
  · exact row_of_own encNonce_len (ownsRow_setCell_other (ownsRow_setCell_other (ownsRow_setCell_other (ownsRow_setCell_other (ownsRow_setCell_other (ownsRow_setCell_other (ownsRow_setCell_other (ownsRow_setCell_other (ownsRow_setCell_other (ownsRow_setCell_other (ownsRow_setCell_other (ownsRow_setCell_other (ownsRow_setCell_other Q3.out (a := ⟨w.heap.size + 1 + 1, 5, none⟩) ne5 _) (a := ⟨w.heap.size + 1 + 1, 6, none⟩) ne5 _) (a := ⟨w.heap.size + 1 + 1, 7, none⟩) ne5 _) (a := ⟨w.heap.size + 1 + 1, 8, none⟩) ne5 _) (a := ⟨w.heap.size + 1, 0, none⟩) ne6 _) (a := ⟨w.heap.size + 1, 1, none⟩) ne6 _) (a := ⟨w.heap.size + 1, 2, none⟩) ne6 _) (a := ⟨w.heap.size + 1, 3, none⟩) ne6 _) (a := ⟨w.heap.size + 1, 4, none⟩) ne6 _) (a := ⟨w.heap.size + 1, 5, none⟩) ne6 _) (a := ⟨w.heap.size + 1, 6, none⟩) ne6 _) (a := ⟨w.heap.size + 1, 7, none⟩) ne6 _) (a := ⟨w.heap.size + 1, 8, none⟩) ne6 _)

set_option maxRecDepth 20000 in
set_option maxHeartbeats 4000000 in
theorem eq_Verifier (s rt : ByteArray) (num : Int) (re : List RefD) (wd : List (List UInt8)) (tk : ByteArray) (now next : Int) (ne : List NonceD) (n1 : re.length ≤ 100000000) (n2 : wd.length ≤ 1000000000) (n3 : ne.length ≤ 100000000) (a1 a2 a3 b1 b2 b3 : Value) (w : World) (h1 : FRow encRef 3 w a1 re) (h2 : TextsAt w a2 wd) (h3 : FRow encNonce 2 w a3 ne) (i1 : FRow encRef 3 w b1 re) (i2 : TextsAt w b2 wd) (i3 : FRow encNonce 2 w b3 ne) :
    Calls Tryd.prog 22 #[.agg #[.string s, .string rt, .int .i64 num, a1, a2, .string tk, .int .i64 now, .int .i64 next, a3], .agg #[.string s, .string rt, .int .i64 num, b1, b2, .string tk, .int .i64 now, .int .i64 next, b3]] w fun e w' => e = .returned (.bool true) ∧ Below w.heap.size w w' := by
  have HFa := hid h1
  have HFb := hid h2
  have HFc := hid h3
  have HFd := hid i1
  have HFe := hid i2
  have HFf := hid i3
  obtain ⟨p, c, rfl, _, _⟩ := h1
  obtain ⟨q, d, rfl, _⟩ := h2
  obtain ⟨u, v, rfl, _, _⟩ := h3
  obtain ⟨p9, c9, rfl, _, _⟩ := i1
  obtain ⟨q9, d9, rfl, _⟩ := i2
  obtain ⟨u9, v9, rfl, _, _⟩ := i3
  have CP := hid (fun W x1 x2 x3 x4 => eq_Policy num re wd n1 n2 (.slice p re.length c) (.slice p9 re.length c9) (.slice q wd.length d) (.slice q9 wd.length d9) W x1 x2 x3 x4)
  have CT := hid (fun W x1 x2 => eq_Table tk now next ne n3 (.slice u ne.length v) (.slice u9 ne.length v9) W x1 x2)
  have hy0 : (s.toList == s.toList) = true := by simp
  have hn0 : (s.toList != s.toList) = false := by simp
  have hy1 : (rt.toList == rt.toList) = true := by simp
  have hn1 : (rt.toList != rt.toList) = false := by simp
  obtain ⟨W0, hW0⟩ : ∃ W0, W0 = (w.alloc (.cells #[.string s, .string rt, .int .i64 num, .slice p re.length c, .slice q wd.length d, .string tk, .int .i64 now, .int .i64 next, .slice u ne.length v] 51)).alloc (.cells #[.string s, .string rt, .int .i64 num, .slice p9 re.length c9, .slice q9 wd.length d9, .string tk, .int .i64 now, .int .i64 next, .slice u9 ne.length v9] 51) := ⟨_, rfl⟩
  have K0 : Hid (Below w.heap.size w W0) := hid (by rw [hW0]; exact ((Below.refl _ _).alloc (Nat.le_refl _) _).alloc (by simp) _)
  have V0 : Hid (W0.heap[w.heap.size]? = some (.cells #[.string s, .string rt, .int .i64 num, .slice p re.length c, .slice q wd.length d, .string tk, .int .i64 now, .int .i64 next, .slice u ne.length v] 51)) := hid (by rw [hW0]; exact st_one _ _)
  have U0 : Hid (W0.heap[w.heap.size + 1]? = some (.cells #[.string s, .string rt, .int .i64 num, .slice p9 re.length c9, .slice q9 wd.length d9, .string tk, .int .i64 now, .int .i64 next, .slice u9 ne.length v9] 51)) := hid (by rw [hW0]; exact st_two _ _)
  have hz0 : w.heap.size + 1 < W0.heap.size := by rw [hW0]; simp
  have HW0 := hid hW0
  clear hW0
  go_enter Tryd.func22, Tryd.ntmps22
  go_wp2_with (go_at_call 67; rw [← HW0.out]; refine (CP.out _ (HFa.out.on K0.out) (HFb.out.on K0.out) (HFd.out.on K0.out) (HFe.out.on K0.out)).mono ?_; rintro e w1 ⟨rfl, hb1⟩; refine Hid.out ?_)
  refine hid ?_
  have K1 := hid (st_below K0.out (Nat.le_refl _) hb1)
  have V1 := hid ((hb1.block _ (by omega)).trans V0.out)
  have U1 := hid ((hb1.block _ (by omega)).trans U0.out)
  clear hb1
  obtain ⟨k0, k1, k2, k3, k4, k5, k6, k7, k8⟩ := nine_cells V1.out
  obtain ⟨j0, j1, j2, j3, j4, j5, j6, j7, j8⟩ := nine_cells U1.out
  go_wp2_with (go_at_call 68; refine (CT.out _ (HFc.out.on K1.out) (HFf.out.on K1.out)).mono ?_; rintro e w2 ⟨rfl, hb2⟩; refine Hid.out ?_)
  refine hid ?_
  have K2 := hid (K1.out.trans (hb2.mono K1.out.size))
  clear hb2
  clear k0 k1 k2 k3 k4 k5 k6 k7 k8
  clear j0 j1 j2 j3 j4 j5 j6 j7 j8
  go_wp2
  go_ret
  exact ⟨rfl, K2.out⟩
end Go.Proofs.YtkpieeakiolomaaDoor

namespace Go.Proofs.YtkpieeakiolomaaDoor
open Go.RowKit
open Go.Lib (hid)

/-- Is it a right Verifier. -/
def verB (s rt : ByteArray) (num : Int) (re : List RefD) (wd : List (List UInt8)) (tk : ByteArray) (now next : Int) (ne : List NonceD) : Bool :=
  tabB tk.data.toList now next ne && ((s.toList == tk.toList) && (decide ((nodeOf rt).1 = 6) && polB num re wd))

theorem tab_secret {tk : List UInt8} {now next : Int} {ne : List NonceD} (h : tabB tk now next ne = true) : secretB tk = true := by
  unfold tabB at h
  rw [Bool.and_eq_true] at h
  exact h.1

theorem ver_same (s rt : ByteArray) (num : Int) (re : List RefD) (wd : List (List UInt8)) (tk : ByteArray) (now next : Int) (ne : List NonceD) : (secretB s.data.toList && ((tk.toList == s.toList) && (decide ((nodeOf rt).1 = 6) && (polB num re wd && tabB tk.data.toList now next ne)))) = verB s rt num re wd tk now next ne := by
  unfold verB
  rw [show (tk.toList == s.toList) = (s.toList == tk.toList) from Bool.beq_comm]
  generalize polB num re wd = pb
  generalize decide ((nodeOf rt).1 = 6) = kb
  cases ht : tabB tk.data.toList now next ne with
  | false => simp
  | true =>
    have h2 := tab_secret ht
    cases he : (s.toList == tk.toList) with
    | false => simp
    | true =>
      have h3 := beq_iff_eq.1 he
      rw [Lib.toList_data, Lib.toList_data] at h3
      rw [h3, h2]
      simp

set_option maxRecDepth 20000 in
set_option maxHeartbeats 4000000 in
theorem ver_spec (s rt : ByteArray) (num : Int) (re : List RefD) (wd : List (List UInt8)) (tk : ByteArray) (now next : Int) (ne : List NonceD) (hr : rt.size ≤ 1048576) (n1 : re.length ≤ 1048576) (n2 : wd.length ≤ 1048576) (s2 : ∀ p ∈ wd, p.length ≤ 1048576) (n3 : ne.length ≤ 1048576) (a1 a2 a3 : Value) (w : World) (h1 : FRow encRef 3 w a1 re) (h2 : TextsAt w a2 wd) (h3 : FRow encNonce 2 w a3 ne) :
    Calls Tryd.prog 19 #[.agg #[.string s, .string rt, .int .i64 num, a1, a2, .string tk, .int .i64 now, .int .i64 next, a3]] w fun e w' => e = .returned (.bool (verB s rt num re wd tk now next ne)) ∧ Below w.heap.size w w' := by
  have HFa := hid h1
  have HFb := hid h2
  have HFc := hid h3
  have CS := hid (fun W => ssecret_calls s W)
  have CK := hid (fun W => kind_spec rt W hr)
  have CP := hid (fun W x1 x2 => pol_spec num re n1 wd n2 s2 a1 a2 W x1 x2)
  have CT := hid (fun W x => tab_spec tk now next ne n3 a3 W x)
  have HR := hid (ver_same s rt num re wd tk now next ne).symm
  clear hr s2
  obtain ⟨p, c, rfl, t1⟩ := h1
  obtain ⟨q, d, rfl, t2⟩ := h2
  obtain ⟨u, v, rfl, t3⟩ := h3
  clear t1 t2 t3 n1 n2 n3
  generalize verB s rt num re wd tk now next ne = r at *
  generalize tabB tk.data.toList now next ne = tb at *
  generalize polB num re wd = pb at *
  generalize (nodeOf rt).1 = kk at *
  generalize secretB s.data.toList = sb at *
  have HB0_0 : Hid (Below w.heap.size w w) := hid (Below.refl _ _)
  have hz0 : w.heap.size ≤ w.heap.size := Nat.le_refl _
  obtain ⟨w1, hw1⟩ : ∃ W, W = w.alloc (.cells #[.string s, .string rt, .int .i64 num, .slice p re.length c, .slice q wd.length d, .string tk, .int .i64 now, .int .i64 next, .slice u ne.length v] 51) := ⟨_, rfl⟩
  have hb1 : Below w.heap.size w w1 := by rw [hw1]; exact (Below.refl _ _).alloc (Nat.le_refl _) _
  have hz1 : w.heap.size < w1.heap.size := by rw [hw1]; simp
  have HVV_1 : Hid (w1.heap[w.heap.size]? = some (.cells #[.string s, .string rt, .int .i64 num, .slice p re.length c, .slice q wd.length d, .string tk, .int .i64 now, .int .i64 next, .slice u ne.length v] 51)) := hid (by rw [hw1]; exact heap_alloc_new _ _)
  have HW1 := hid hw1
  have HB0_1 := hid (HB0_0.out.trans (hb1.mono HB0_0.out.size))
  clear hw1 hb1
  cases sb with
  | false =>
    go_enter Tryd.func19, Tryd.ntmps19
    go_wp2_with (go_at_call 59; rw [← HW1.out]; refine (CS.out _).mono ?_; rintro e wq ⟨rfl, eq⟩; rw [eq]; clear eq wq; refine Hid.out ?_)
    refine hid ?_
    go_wp2
    go_ret
    exact ⟨by rw [HR.out]; (first | rfl | simp | (simp; omega) | (congr 2; simp; omega)), HB0_1.out⟩
  | true =>
    cases he : (tk.toList == s.toList) with
    | false =>
      rw [he] at HR
      go_enter Tryd.func19, Tryd.ntmps19
      go_wp2_with (go_at_call 59; rw [← HW1.out]; refine (CS.out _).mono ?_; rintro e wq ⟨rfl, eq⟩; rw [eq]; clear eq wq; refine Hid.out ?_)
      refine hid ?_
      have k_V_0 := (cell_of_row _ _ 0 _ _ _ HVV_1.out).trans rfl
      have k_V_1 := (cell_of_row _ _ 1 _ _ _ HVV_1.out).trans rfl
      have k_V_2 := (cell_of_row _ _ 2 _ _ _ HVV_1.out).trans rfl
      have k_V_3 := (cell_of_row _ _ 3 _ _ _ HVV_1.out).trans rfl
      have k_V_4 := (cell_of_row _ _ 4 _ _ _ HVV_1.out).trans rfl
      have k_V_5 := (cell_of_row _ _ 5 _ _ _ HVV_1.out).trans rfl
      have k_V_6 := (cell_of_row _ _ 6 _ _ _ HVV_1.out).trans rfl
      have k_V_7 := (cell_of_row _ _ 7 _ _ _ HVV_1.out).trans rfl
      have k_V_8 := (cell_of_row _ _ 8 _ _ _ HVV_1.out).trans rfl
      go_wp2
      go_ret
      exact ⟨by rw [HR.out]; (first | rfl | simp | (simp; omega) | (congr 2; simp; omega)), HB0_1.out⟩
    | true =>
      rw [he] at HR
      by_cases hk : kk = 6
      · subst hk
        have hk6 : (((6 : Nat) : Int) == 6) = true := rfl
        rw [decide_eq_true rfl] at HR
        cases pb with
        | false =>
          go_enter Tryd.func19, Tryd.ntmps19
          go_wp2_with (go_at_call 59; rw [← HW1.out]; refine (CS.out _).mono ?_; rintro e wq ⟨rfl, eq⟩; rw [eq]; clear eq wq; refine Hid.out ?_)
          refine hid ?_
          have k_V_0 := (cell_of_row _ _ 0 _ _ _ HVV_1.out).trans rfl
          have k_V_1 := (cell_of_row _ _ 1 _ _ _ HVV_1.out).trans rfl
          have k_V_2 := (cell_of_row _ _ 2 _ _ _ HVV_1.out).trans rfl
          have k_V_3 := (cell_of_row _ _ 3 _ _ _ HVV_1.out).trans rfl
          have k_V_4 := (cell_of_row _ _ 4 _ _ _ HVV_1.out).trans rfl
          have k_V_5 := (cell_of_row _ _ 5 _ _ _ HVV_1.out).trans rfl
          have k_V_6 := (cell_of_row _ _ 6 _ _ _ HVV_1.out).trans rfl
          have k_V_7 := (cell_of_row _ _ 7 _ _ _ HVV_1.out).trans rfl
          have k_V_8 := (cell_of_row _ _ 8 _ _ _ HVV_1.out).trans rfl
          go_wp2_with (go_at_call 51; refine (CK.out _).mono ?_; rintro e w2 ⟨rfl, hb2⟩; refine Hid.out ?_)
          refine hid ?_
          clear k_V_0 k_V_1 k_V_2 k_V_3 k_V_4 k_V_5 k_V_6 k_V_7 k_V_8
          have hz2 := hb2.size
          have HB0_2 := hid (HB0_1.out.trans (hb2.mono HB0_1.out.size))
          have HVV_2 := hid ((hb2.block _ (by omega)).trans HVV_1.out)
          clear HB0_1 HVV_1
          clear hb2
          have k_V_0 := (cell_of_row _ _ 0 _ _ _ HVV_2.out).trans rfl
          have k_V_1 := (cell_of_row _ _ 1 _ _ _ HVV_2.out).trans rfl
          have k_V_2 := (cell_of_row _ _ 2 _ _ _ HVV_2.out).trans rfl
          have k_V_3 := (cell_of_row _ _ 3 _ _ _ HVV_2.out).trans rfl
          have k_V_4 := (cell_of_row _ _ 4 _ _ _ HVV_2.out).trans rfl
          have k_V_5 := (cell_of_row _ _ 5 _ _ _ HVV_2.out).trans rfl
          have k_V_6 := (cell_of_row _ _ 6 _ _ _ HVV_2.out).trans rfl
          have k_V_7 := (cell_of_row _ _ 7 _ _ _ HVV_2.out).trans rfl
          have k_V_8 := (cell_of_row _ _ 8 _ _ _ HVV_2.out).trans rfl
          go_wp2_with (go_at_call 60; refine (CP.out _ (HFa.out.on HB0_2.out) (HFb.out.on HB0_2.out)).mono ?_; rintro e w3 ⟨rfl, hb3⟩; refine Hid.out ?_)
          refine hid ?_
          clear k_V_0 k_V_1 k_V_2 k_V_3 k_V_4 k_V_5 k_V_6 k_V_7 k_V_8
          have hz3 := hb3.size
          have HB0_3 := hid (HB0_2.out.trans (hb3.mono HB0_2.out.size))
          have HVV_3 := hid ((hb3.block _ (by omega)).trans HVV_2.out)
          clear HB0_2 HVV_2
          clear hb3
          go_wp2
          go_ret
          exact ⟨by rw [HR.out]; (first | rfl | simp | (simp; omega) | (congr 2; simp; omega)), HB0_3.out⟩
        | true =>
          go_enter Tryd.func19, Tryd.ntmps19
          go_wp2_with (go_at_call 59; rw [← HW1.out]; refine (CS.out _).mono ?_; rintro e wq ⟨rfl, eq⟩; rw [eq]; clear eq wq; refine Hid.out ?_)
          refine hid ?_
          have k_V_0 := (cell_of_row _ _ 0 _ _ _ HVV_1.out).trans rfl
          have k_V_1 := (cell_of_row _ _ 1 _ _ _ HVV_1.out).trans rfl
          have k_V_2 := (cell_of_row _ _ 2 _ _ _ HVV_1.out).trans rfl
          have k_V_3 := (cell_of_row _ _ 3 _ _ _ HVV_1.out).trans rfl
          have k_V_4 := (cell_of_row _ _ 4 _ _ _ HVV_1.out).trans rfl
          have k_V_5 := (cell_of_row _ _ 5 _ _ _ HVV_1.out).trans rfl
          have k_V_6 := (cell_of_row _ _ 6 _ _ _ HVV_1.out).trans rfl
          have k_V_7 := (cell_of_row _ _ 7 _ _ _ HVV_1.out).trans rfl
          have k_V_8 := (cell_of_row _ _ 8 _ _ _ HVV_1.out).trans rfl
          go_wp2_with (go_at_call 51; refine (CK.out _).mono ?_; rintro e w2 ⟨rfl, hb2⟩; refine Hid.out ?_)
          refine hid ?_
          clear k_V_0 k_V_1 k_V_2 k_V_3 k_V_4 k_V_5 k_V_6 k_V_7 k_V_8
          have hz2 := hb2.size
          have HB0_2 := hid (HB0_1.out.trans (hb2.mono HB0_1.out.size))
          have HVV_2 := hid ((hb2.block _ (by omega)).trans HVV_1.out)
          clear HB0_1 HVV_1
          clear hb2
          have k_V_0 := (cell_of_row _ _ 0 _ _ _ HVV_2.out).trans rfl
          have k_V_1 := (cell_of_row _ _ 1 _ _ _ HVV_2.out).trans rfl
          have k_V_2 := (cell_of_row _ _ 2 _ _ _ HVV_2.out).trans rfl
          have k_V_3 := (cell_of_row _ _ 3 _ _ _ HVV_2.out).trans rfl
          have k_V_4 := (cell_of_row _ _ 4 _ _ _ HVV_2.out).trans rfl
          have k_V_5 := (cell_of_row _ _ 5 _ _ _ HVV_2.out).trans rfl
          have k_V_6 := (cell_of_row _ _ 6 _ _ _ HVV_2.out).trans rfl
          have k_V_7 := (cell_of_row _ _ 7 _ _ _ HVV_2.out).trans rfl
          have k_V_8 := (cell_of_row _ _ 8 _ _ _ HVV_2.out).trans rfl
          go_wp2_with (go_at_call 60; refine (CP.out _ (HFa.out.on HB0_2.out) (HFb.out.on HB0_2.out)).mono ?_; rintro e w3 ⟨rfl, hb3⟩; refine Hid.out ?_)
          refine hid ?_
          clear k_V_0 k_V_1 k_V_2 k_V_3 k_V_4 k_V_5 k_V_6 k_V_7 k_V_8
          have hz3 := hb3.size
          have HB0_3 := hid (HB0_2.out.trans (hb3.mono HB0_2.out.size))
          have HVV_3 := hid ((hb3.block _ (by omega)).trans HVV_2.out)
          clear HB0_2 HVV_2
          clear hb3
          have k_V_0 := (cell_of_row _ _ 0 _ _ _ HVV_3.out).trans rfl
          have k_V_1 := (cell_of_row _ _ 1 _ _ _ HVV_3.out).trans rfl
          have k_V_2 := (cell_of_row _ _ 2 _ _ _ HVV_3.out).trans rfl
          have k_V_3 := (cell_of_row _ _ 3 _ _ _ HVV_3.out).trans rfl
          have k_V_4 := (cell_of_row _ _ 4 _ _ _ HVV_3.out).trans rfl
          have k_V_5 := (cell_of_row _ _ 5 _ _ _ HVV_3.out).trans rfl
          have k_V_6 := (cell_of_row _ _ 6 _ _ _ HVV_3.out).trans rfl
          have k_V_7 := (cell_of_row _ _ 7 _ _ _ HVV_3.out).trans rfl
          have k_V_8 := (cell_of_row _ _ 8 _ _ _ HVV_3.out).trans rfl
          go_wp2_with (go_at_call 61; refine (CT.out _ (HFc.out.on HB0_3.out)).mono ?_; rintro e w4 ⟨rfl, hb4⟩; refine Hid.out ?_)
          refine hid ?_
          clear k_V_0 k_V_1 k_V_2 k_V_3 k_V_4 k_V_5 k_V_6 k_V_7 k_V_8
          have hz4 := hb4.size
          have HB0_4 := hid (HB0_3.out.trans (hb4.mono HB0_3.out.size))
          have HVV_4 := hid ((hb4.block _ (by omega)).trans HVV_3.out)
          clear HB0_3 HVV_3
          clear hb4
          go_wp2
          go_ret
          exact ⟨by rw [HR.out]; (first | rfl | simp | (simp; omega) | (congr 2; simp; omega)), HB0_4.out⟩
      · have hk6 : (((kk : Nat) : Int) == 6) = false := by rw [beq_eq_false_iff_ne]; omega
        rw [decide_eq_false hk] at HR
        clear hk
        go_enter Tryd.func19, Tryd.ntmps19
        go_wp2_with (go_at_call 59; rw [← HW1.out]; refine (CS.out _).mono ?_; rintro e wq ⟨rfl, eq⟩; rw [eq]; clear eq wq; refine Hid.out ?_)
        refine hid ?_
        have k_V_0 := (cell_of_row _ _ 0 _ _ _ HVV_1.out).trans rfl
        have k_V_1 := (cell_of_row _ _ 1 _ _ _ HVV_1.out).trans rfl
        have k_V_2 := (cell_of_row _ _ 2 _ _ _ HVV_1.out).trans rfl
        have k_V_3 := (cell_of_row _ _ 3 _ _ _ HVV_1.out).trans rfl
        have k_V_4 := (cell_of_row _ _ 4 _ _ _ HVV_1.out).trans rfl
        have k_V_5 := (cell_of_row _ _ 5 _ _ _ HVV_1.out).trans rfl
        have k_V_6 := (cell_of_row _ _ 6 _ _ _ HVV_1.out).trans rfl
        have k_V_7 := (cell_of_row _ _ 7 _ _ _ HVV_1.out).trans rfl
        have k_V_8 := (cell_of_row _ _ 8 _ _ _ HVV_1.out).trans rfl
        go_wp2_with (go_at_call 51; refine (CK.out _).mono ?_; rintro e w2 ⟨rfl, hb2⟩; refine Hid.out ?_)
        refine hid ?_
        clear k_V_0 k_V_1 k_V_2 k_V_3 k_V_4 k_V_5 k_V_6 k_V_7 k_V_8
        have hz2 := hb2.size
        have HB0_2 := hid (HB0_1.out.trans (hb2.mono HB0_1.out.size))
        have HVV_2 := hid ((hb2.block _ (by omega)).trans HVV_1.out)
        clear HB0_1 HVV_1
        clear hb2
        go_wp2
        go_ret
        exact ⟨by rw [HR.out]; (first | rfl | simp | (simp; omega) | (congr 2; simp; omega)), HB0_2.out⟩

set_option maxRecDepth 20000 in
set_option maxHeartbeats 4000000 in
theorem ver_impl (s rt : ByteArray) (num : Int) (re : List RefD) (wd : List (List UInt8)) (tk : ByteArray) (now next : Int) (ne : List NonceD)  (n1 : re.length ≤ 1048576) (hf : RowsFit re) (n2 : wd.length ≤ 1048576) (n3 : ne.length ≤ 1048576) (a1 a2 a3 : Value) (w : World) (h1 : FRow encRef 3 w a1 re) (h2 : TextsAt w a2 wd) (h3 : FRow encNonce 2 w a3 ne) (hT : Tab w) (hG : 0 < w.heap.size) (hP : Lib.TabIs Tryd.prog w "internal/strconv.uint64pow10" .u64 Lib.pow10Tab) :
    Calls Tryd.prog 21 #[.agg #[.string s, .string rt, .int .i64 num, a1, a2, .string tk, .int .i64 now, .int .i64 next, a3]] w fun e w' => e = .returned (.bool (verB s rt num re wd tk now next ne)) ∧ Below w.heap.size w w' := by
  have HFa := hid h1
  have HFb := hid h2
  have HFc := hid h3
  have HTAB := hid hT
  have HPW := hid hP
  have CK := hid (fun W hT hG => kind_impl rt W hT hG)
  have CP := hid (fun W x1 x2 hT hG hP => pol_impl num re n1 hf wd n2 a1 a2 W x1 x2 hT hG hP)
  have CT := hid (fun W x hT hG hP => tab_impl tk now next ne n3 a3 W x hT hG hP)
  have HR : Hid (verB s rt num re wd tk now next ne = (tabB tk.data.toList now next ne && ((s.toList == tk.toList) && (decide ((nodeOf rt).1 = 6) && polB num re wd)))) := hid rfl
  clear hT hP hf
  obtain ⟨p, c, rfl, t1⟩ := h1
  obtain ⟨q, d, rfl, t2⟩ := h2
  obtain ⟨u, v, rfl, t3⟩ := h3
  clear t1 t2 t3 n1 n2 n3
  generalize verB s rt num re wd tk now next ne = r at *
  generalize tabB tk.data.toList now next ne = tb at *
  generalize polB num re wd = pb at *
  generalize (nodeOf rt).1 = kk at *
  have HB0_0 : Hid (Below w.heap.size w w) := hid (Below.refl _ _)
  have hz0 : w.heap.size ≤ w.heap.size := Nat.le_refl _
  obtain ⟨w1, hw1⟩ : ∃ W, W = w.alloc (.cells #[.string s, .string rt, .int .i64 num, .slice p re.length c, .slice q wd.length d, .string tk, .int .i64 now, .int .i64 next, .slice u ne.length v] 51) := ⟨_, rfl⟩
  have hb1 : Below w.heap.size w w1 := by rw [hw1]; exact (Below.refl _ _).alloc (Nat.le_refl _) _
  have hz1 : w.heap.size < w1.heap.size := by rw [hw1]; simp
  have HVV_1 : Hid (w1.heap[w.heap.size]? = some (.cells #[.string s, .string rt, .int .i64 num, .slice p re.length c, .slice q wd.length d, .string tk, .int .i64 now, .int .i64 next, .slice u ne.length v] 51)) := hid (by rw [hw1]; exact heap_alloc_new _ _)
  have HW1 := hid hw1
  have HB0_1 := hid (HB0_0.out.trans (hb1.mono HB0_0.out.size))
  clear hw1 hb1
  cases tb with
  | false =>
    go_enter Tryd.func21, Tryd.ntmps21
    go_wp2_with (go_at_call 64; rw [← HW1.out]; refine (CT.out _ (HFc.out.on HB0_1.out) (tab_on HTAB.out hG HB0_1.out) (Nat.lt_of_lt_of_le hG HB0_1.out.size) (Num.tab_stays HB0_1.out HPW.out)).mono ?_; rintro e w2 ⟨rfl, hb2⟩; refine Hid.out ?_)
    refine hid ?_
    have hz2 := hb2.size
    have HB0_2 := hid (HB0_1.out.trans (hb2.mono HB0_1.out.size))
    have HVV_2 := hid ((hb2.block _ (by omega)).trans HVV_1.out)
    clear HB0_1 HVV_1
    clear hb2
    go_wp2
    go_ret
    exact ⟨by rw [HR.out]; (first | rfl | simp | (simp; omega) | (congr 2; simp; omega)), HB0_2.out⟩
  | true =>
    cases he : (s.toList == tk.toList) with
    | false =>
      rw [he] at HR
      go_enter Tryd.func21, Tryd.ntmps21
      go_wp2_with (go_at_call 64; rw [← HW1.out]; refine (CT.out _ (HFc.out.on HB0_1.out) (tab_on HTAB.out hG HB0_1.out) (Nat.lt_of_lt_of_le hG HB0_1.out.size) (Num.tab_stays HB0_1.out HPW.out)).mono ?_; rintro e w2 ⟨rfl, hb2⟩; refine Hid.out ?_)
      refine hid ?_
      have hz2 := hb2.size
      have HB0_2 := hid (HB0_1.out.trans (hb2.mono HB0_1.out.size))
      have HVV_2 := hid ((hb2.block _ (by omega)).trans HVV_1.out)
      clear HB0_1 HVV_1
      clear hb2
      have k_V_0 := (cell_of_row _ _ 0 _ _ _ HVV_2.out).trans rfl
      have k_V_1 := (cell_of_row _ _ 1 _ _ _ HVV_2.out).trans rfl
      have k_V_2 := (cell_of_row _ _ 2 _ _ _ HVV_2.out).trans rfl
      have k_V_3 := (cell_of_row _ _ 3 _ _ _ HVV_2.out).trans rfl
      have k_V_4 := (cell_of_row _ _ 4 _ _ _ HVV_2.out).trans rfl
      have k_V_5 := (cell_of_row _ _ 5 _ _ _ HVV_2.out).trans rfl
      have k_V_6 := (cell_of_row _ _ 6 _ _ _ HVV_2.out).trans rfl
      have k_V_7 := (cell_of_row _ _ 7 _ _ _ HVV_2.out).trans rfl
      have k_V_8 := (cell_of_row _ _ 8 _ _ _ HVV_2.out).trans rfl
      go_wp2
      go_ret
      exact ⟨by rw [HR.out]; (first | rfl | simp | (simp; omega) | (congr 2; simp; omega)), HB0_2.out⟩
    | true =>
      rw [he] at HR
      by_cases hk : kk = 6
      · subst hk
        have hk6 : (((6 : Nat) : Int) == 6) = true := rfl
        rw [decide_eq_true rfl] at HR
        go_enter Tryd.func21, Tryd.ntmps21
        go_wp2_with (go_at_call 64; rw [← HW1.out]; refine (CT.out _ (HFc.out.on HB0_1.out) (tab_on HTAB.out hG HB0_1.out) (Nat.lt_of_lt_of_le hG HB0_1.out.size) (Num.tab_stays HB0_1.out HPW.out)).mono ?_; rintro e w2 ⟨rfl, hb2⟩; refine Hid.out ?_)
        refine hid ?_
        have hz2 := hb2.size
        have HB0_2 := hid (HB0_1.out.trans (hb2.mono HB0_1.out.size))
        have HVV_2 := hid ((hb2.block _ (by omega)).trans HVV_1.out)
        clear HB0_1 HVV_1
        clear hb2
        have k_V_0 := (cell_of_row _ _ 0 _ _ _ HVV_2.out).trans rfl
        have k_V_1 := (cell_of_row _ _ 1 _ _ _ HVV_2.out).trans rfl
        have k_V_2 := (cell_of_row _ _ 2 _ _ _ HVV_2.out).trans rfl
        have k_V_3 := (cell_of_row _ _ 3 _ _ _ HVV_2.out).trans rfl
        have k_V_4 := (cell_of_row _ _ 4 _ _ _ HVV_2.out).trans rfl
        have k_V_5 := (cell_of_row _ _ 5 _ _ _ HVV_2.out).trans rfl
        have k_V_6 := (cell_of_row _ _ 6 _ _ _ HVV_2.out).trans rfl
        have k_V_7 := (cell_of_row _ _ 7 _ _ _ HVV_2.out).trans rfl
        have k_V_8 := (cell_of_row _ _ 8 _ _ _ HVV_2.out).trans rfl
        go_wp2_with (go_at_call 65; refine (CK.out _ (tab_on HTAB.out hG HB0_2.out) (Nat.lt_of_lt_of_le hG HB0_2.out.size)).mono ?_; rintro e w3 ⟨rfl, hb3⟩; refine Hid.out ?_)
        refine hid ?_
        clear k_V_0 k_V_1 k_V_2 k_V_3 k_V_4 k_V_5 k_V_6 k_V_7 k_V_8
        have hz3 := hb3.size
        have HB0_3 := hid (HB0_2.out.trans (hb3.mono HB0_2.out.size))
        have HVV_3 := hid ((hb3.block _ (by omega)).trans HVV_2.out)
        clear HB0_2 HVV_2
        clear hb3
        have k_V_0 := (cell_of_row _ _ 0 _ _ _ HVV_3.out).trans rfl
        have k_V_1 := (cell_of_row _ _ 1 _ _ _ HVV_3.out).trans rfl
        have k_V_2 := (cell_of_row _ _ 2 _ _ _ HVV_3.out).trans rfl
        have k_V_3 := (cell_of_row _ _ 3 _ _ _ HVV_3.out).trans rfl
        have k_V_4 := (cell_of_row _ _ 4 _ _ _ HVV_3.out).trans rfl
        have k_V_5 := (cell_of_row _ _ 5 _ _ _ HVV_3.out).trans rfl
        have k_V_6 := (cell_of_row _ _ 6 _ _ _ HVV_3.out).trans rfl
        have k_V_7 := (cell_of_row _ _ 7 _ _ _ HVV_3.out).trans rfl
        have k_V_8 := (cell_of_row _ _ 8 _ _ _ HVV_3.out).trans rfl
        go_wp2_with (go_at_call 66; refine (CP.out _ (HFa.out.on HB0_3.out) (HFb.out.on HB0_3.out) (tab_on HTAB.out hG HB0_3.out) (Nat.lt_of_lt_of_le hG HB0_3.out.size) (Num.tab_stays HB0_3.out HPW.out)).mono ?_; rintro e w4 ⟨rfl, hb4⟩; refine Hid.out ?_)
        refine hid ?_
        clear k_V_0 k_V_1 k_V_2 k_V_3 k_V_4 k_V_5 k_V_6 k_V_7 k_V_8
        have hz4 := hb4.size
        have HB0_4 := hid (HB0_3.out.trans (hb4.mono HB0_3.out.size))
        have HVV_4 := hid ((hb4.block _ (by omega)).trans HVV_3.out)
        clear HB0_3 HVV_3
        clear hb4
        go_wp2
        go_ret
        exact ⟨by rw [HR.out]; (first | rfl | simp | (simp; omega) | (congr 2; simp; omega)), HB0_4.out⟩
      · have hk6 : (((kk : Nat) : Int) == 6) = false := by rw [beq_eq_false_iff_ne]; omega
        rw [decide_eq_false hk] at HR
        clear hk
        go_enter Tryd.func21, Tryd.ntmps21
        go_wp2_with (go_at_call 64; rw [← HW1.out]; refine (CT.out _ (HFc.out.on HB0_1.out) (tab_on HTAB.out hG HB0_1.out) (Nat.lt_of_lt_of_le hG HB0_1.out.size) (Num.tab_stays HB0_1.out HPW.out)).mono ?_; rintro e w2 ⟨rfl, hb2⟩; refine Hid.out ?_)
        refine hid ?_
        have hz2 := hb2.size
        have HB0_2 := hid (HB0_1.out.trans (hb2.mono HB0_1.out.size))
        have HVV_2 := hid ((hb2.block _ (by omega)).trans HVV_1.out)
        clear HB0_1 HVV_1
        clear hb2
        have k_V_0 := (cell_of_row _ _ 0 _ _ _ HVV_2.out).trans rfl
        have k_V_1 := (cell_of_row _ _ 1 _ _ _ HVV_2.out).trans rfl
        have k_V_2 := (cell_of_row _ _ 2 _ _ _ HVV_2.out).trans rfl
        have k_V_3 := (cell_of_row _ _ 3 _ _ _ HVV_2.out).trans rfl
        have k_V_4 := (cell_of_row _ _ 4 _ _ _ HVV_2.out).trans rfl
        have k_V_5 := (cell_of_row _ _ 5 _ _ _ HVV_2.out).trans rfl
        have k_V_6 := (cell_of_row _ _ 6 _ _ _ HVV_2.out).trans rfl
        have k_V_7 := (cell_of_row _ _ 7 _ _ _ HVV_2.out).trans rfl
        have k_V_8 := (cell_of_row _ _ 8 _ _ _ HVV_2.out).trans rfl
        go_wp2_with (go_at_call 65; refine (CK.out _ (tab_on HTAB.out hG HB0_2.out) (Nat.lt_of_lt_of_le hG HB0_2.out.size)).mono ?_; rintro e w3 ⟨rfl, hb3⟩; refine Hid.out ?_)
        refine hid ?_
        clear k_V_0 k_V_1 k_V_2 k_V_3 k_V_4 k_V_5 k_V_6 k_V_7 k_V_8
        have hz3 := hb3.size
        have HB0_3 := hid (HB0_2.out.trans (hb3.mono HB0_2.out.size))
        have HVV_3 := hid ((hb3.block _ (by omega)).trans HVV_2.out)
        clear HB0_2 HVV_2
        clear hb3
        go_wp2
        go_ret
        exact ⟨by rw [HR.out]; (first | rfl | simp | (simp; omega) | (congr 2; simp; omega)), HB0_3.out⟩

end Go.Proofs.YtkpieeakiolomaaDoor
