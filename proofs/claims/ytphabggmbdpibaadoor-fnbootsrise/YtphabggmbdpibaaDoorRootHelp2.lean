/- The helpers of the laws on a Root: a copy, two held against each other. -/
import Derived.Test.YtphabggmbdpibaaDoorRootHelp
import Derived.OneCell
namespace Go.Proofs.YtphabggmbdpibaaDoor
open Go.RowKit
open Go.Lib (hid)

theorem three_first {w : World} (x y z : Obj) : (((w.alloc x).alloc y).alloc z).heap[w.heap.size]? = some x := by
  have h := heap_alloc_new w x
  rw [(((Below.refl (w.alloc x).heap.size (w.alloc x)).alloc (Nat.le_refl _) y).alloc (by simp) z).block _ (by simp)]
  exact h

theorem three_mid {w : World} (x y z : Obj) : (((w.alloc x).alloc y).alloc z).heap[w.heap.size + 1]? = some y := by
  have h := heap_alloc_new (w.alloc x) y
  have h2 : ((w.alloc x).alloc y).heap[w.heap.size + 1]? = some y := by simpa using h
  rw [((Below.refl ((w.alloc x).alloc y).heap.size ((w.alloc x).alloc y)).alloc (Nat.le_refl _) z).block _ (by simp)]
  exact h2

theorem three_last {w : World} (x y z : Obj) : (((w.alloc x).alloc y).alloc z).heap[w.heap.size + 2]? = some z := by
  have h := heap_alloc_new ((w.alloc x).alloc y) z
  simpa using h

theorem own_lower {w : World} {base base' size n : Nat} {e : TypeId} {v : Value} {xs : List Value} (h : w.ownsRow base e size v n xs) (hb : base' ≤ base) : w.ownsRow base' e size v n xs :=
  ⟨h.1, h.2.imp id fun ⟨g, cap, cur, a1, a2, a3⟩ => ⟨g, cap, cur, a1, Nat.le_trans hb a2, a3⟩⟩

theorem own_six {w : World} {base size n b c : Nat} {e : TypeId} {v : Value} {xs : List Value} (h : w.ownsRow base e size v n xs) (h1 : v.ownBlock ≠ some b) (h2 : v.ownBlock ≠ some c) (x x0 x1 x2 x3 x4 : Value) :
    ((((((w.setCell ⟨b, 4, none⟩ x).setCell ⟨c, 0, none⟩ x0).setCell ⟨c, 1, none⟩ x1).setCell ⟨c, 2, none⟩ x2).setCell ⟨c, 3, none⟩ x3).setCell ⟨c, 4, none⟩ x4).ownsRow base e size v n xs :=
  ownsRow_setCell_other (ownsRow_setCell_other (ownsRow_setCell_other (ownsRow_setCell_other (ownsRow_setCell_other (ownsRow_setCell_other h (a := ⟨b, 4, none⟩) h1 x) (a := ⟨c, 0, none⟩) h2 x0) (a := ⟨c, 1, none⟩) h2 x1) (a := ⟨c, 2, none⟩) h2 x2) (a := ⟨c, 3, none⟩) h2 x3) (a := ⟨c, 4, none⟩) h2 x4

theorem five_thaw {W : World} {b : Nat} {V : Array Value} {t : TypeId} (h : W.heap[b]? = some (.cells V t)) (o : Nat) : W.frozen? ⟨b, o, none⟩ = false := by simp [World.frozen?, h]

set_option maxRecDepth 20000 in
set_option maxHeartbeats 2000000 in
theorem eq_root (key : ByteArray) (s : Int) (l : List Int) (hl : l.length ≤ 1000000000) (up : Bool) (ps : List (List UInt8)) (hn : ps.length ≤ 1000000000) (a1 a2 b1 b2 : Value) (w : World) (ha1 : RowIn w a1 l) (ha2 : TextsAt w a2 ps) (hb1 : RowIn w b1 l) (hb2 : TextsAt w b2 ps) :
    Calls Tryd.prog 14 #[.agg #[.string key, .int .i64 s, a1, .bool up, a2], .agg #[.string key, .int .i64 s, b1, .bool up, b2]] w fun e w' => e = .returned (.bool true) ∧ Below w.heap.size w w' := by
  have HA1 := hid ha1
  have HA2 := hid ha2
  have HB1 := hid hb1
  have HB2 := hid hb2
  obtain ⟨p1, c1, rfl, _, _⟩ := ha1
  obtain ⟨p2, c2, rfl, _⟩ := ha2
  obtain ⟨q1, d1, rfl, _, _⟩ := hb1
  obtain ⟨q2, d2, rfl, _⟩ := hb2
  obtain ⟨W0, hW0⟩ : ∃ W0, W0 = (w.alloc (.cells #[.string key, .int .i64 s, .slice p1 l.length c1, .bool up, .slice p2 ps.length c2] 31)).alloc (.cells #[.string key, .int .i64 s, .slice q1 l.length d1, .bool up, .slice q2 ps.length d2] 31) := ⟨_, rfl⟩
  have K0 : Hid (Below w.heap.size w W0) := hid (by rw [hW0]; exact ((Below.refl _ _).alloc (Nat.le_refl _) _).alloc (by simp) _)
  have V0 : Hid (W0.heap[w.heap.size]? = some (.cells #[.string key, .int .i64 s, .slice p1 l.length c1, .bool up, .slice p2 ps.length c2] 31)) := hid (by
    rw [hW0, (((Below.refl _ _).alloc (Nat.le_refl _) _).block _ (by simp))]
    exact heap_alloc_new _ _)
  have U0 : Hid (W0.heap[w.heap.size + 1]? = some (.cells #[.string key, .int .i64 s, .slice q1 l.length d1, .bool up, .slice q2 ps.length d2] 31)) := hid (by
    rw [hW0]
    have h := heap_alloc_new (w.alloc (.cells #[.string key, .int .i64 s, .slice p1 l.length c1, .bool up, .slice p2 ps.length c2] 31)) (.cells #[.string key, .int .i64 s, .slice q1 l.length d1, .bool up, .slice q2 ps.length d2] 31)
    simpa using h)
  have hz0 : w.heap.size + 1 < W0.heap.size := by rw [hW0]; simp
  have hkk : (key.toList == key.toList) = true := by simp
  have hkn : (key.toList != key.toList) = false := by simp
  have huu : (up != up) = false := by cases up <;> rfl
  have HW0 := hid hW0
  clear hW0
  go_enter Tryd.func14, Tryd.ntmps14
  go_wp2_with (go_at_call 57; rw [← HW0.out]; refine (eq_nv s l hl _ _ _ (HA1.out.on K0.out) (HB1.out.on K0.out)).mono ?_; rintro e w1 ⟨rfl, hb1⟩; refine Hid.out ?_)
  refine hid ?_
  have K1 := hid (K0.out.trans (hb1.mono K0.out.size))
  have V1 := hid ((hb1.block w.heap.size (by omega)).trans V0.out)
  have U1 := hid ((hb1.block (w.heap.size + 1) (by omega)).trans U0.out)
  obtain ⟨k0, k1, k2, k3, k4⟩ := five_cells V1.out
  obtain ⟨j0, j1, j2, j3, j4⟩ := five_cells U1.out
  clear hb1
  go_wp2_with (go_at_call 58; refine (eq_same ps hn _ _ _ (HA2.out.on K1.out) (HB2.out.on K1.out)).mono ?_; rintro e w2 ⟨rfl, hb2⟩; refine Hid.out ?_)
  refine hid ?_
  have K2 := hid (K1.out.trans (hb2.mono K1.out.size))
  clear hb2
  go_wp2
  go_ret
  exact ⟨rfl, K2.out⟩

set_option maxRecDepth 20000 in
set_option maxHeartbeats 2000000 in
theorem to_root2 (key : ByteArray) (s : Int) (l : List Int) (hl : l.length ≤ 1048576) (up : Bool) (ps : List (List UInt8)) (hn : ps.length ≤ 1048576) (a1 a2 : Value) (w : World) (h1 : ArgInts w a1 l) (h2 : ArgAt w a2 ps) :
    Calls Tryd.prog 12 #[.agg #[.string key, .int .i64 s, a1, .bool up, a2]] w fun e w' => ∃ sv1 sv2, e = .returned (.agg #[.string key, .int .i64 s, sv1, .bool up, sv2]) ∧ Below w.heap.size w w' ∧ w'.ownsRow w.heap.size 2 1 sv1 l.length (ints l) ∧ w'.ownsRow w.heap.size 9 1 sv2 ps.length (strs ps) ∧ (∀ j k, sv1.ownBlock = some j → sv2.ownBlock = some k → j < k) := by
  have H1 := hid h1
  have H2 := hid h2
  obtain ⟨p1, c1, rfl, _⟩ := h1
  obtain ⟨p2, c2, rfl, _⟩ := h2
  obtain ⟨W0, hW0⟩ : ∃ W0, W0 = ((w.alloc (.cells #[.string key, .int .i64 s, .slice p1 l.length c1, .bool up, .slice p2 ps.length c2] 27)).alloc (.cells #[.string ⟨#[]⟩, .int .i64 0, .slice none 0 0, .bool false, .slice none 0 0] 31)).alloc (.cells #[.string key, .int .i64 0, .slice none 0 0, .bool false, .slice none 0 0] 31) := ⟨_, rfl⟩
  have K0 : Hid (Below w.heap.size w W0) := hid (by rw [hW0]; exact (((Below.refl _ _).alloc (Nat.le_refl _) _).alloc (by simp) _).alloc (by simp; omega) _)
  have V0 : Hid (W0.heap[w.heap.size]? = some (.cells #[.string key, .int .i64 s, .slice p1 l.length c1, .bool up, .slice p2 ps.length c2] 27)) := hid (by rw [hW0]; exact three_first _ _ _)
  have R0 : Hid (W0.heap[w.heap.size + 1]? = some (.cells #[.string ⟨#[]⟩, .int .i64 0, .slice none 0 0, .bool false, .slice none 0 0] 31)) := hid (by rw [hW0]; exact three_mid _ _ _)
  have O0 : Hid (W0.heap[w.heap.size + 2]? = some (.cells #[.string key, .int .i64 0, .slice none 0 0, .bool false, .slice none 0 0] 31)) := hid (by rw [hW0]; exact three_last _ _ _)
  have hz0 : w.heap.size + 3 = W0.heap.size := by rw [hW0]; simp
  have hz0a : w.heap.size + 2 < W0.heap.size := by omega
  have HZ0 := hid hz0
  have HW0 := hid hW0
  clear hW0 hz0
  go_enter Tryd.func12, Tryd.ntmps12
  go_wp2_with (go_at_call 53; rw [← HW0.out]; refine (to_nv s l hl _ _ (H1.out.on K0.out)).mono ?_; rintro e w1 ⟨sv1, rfl, hb1, ho1⟩; refine Hid.out ?_)
  refine hid ?_
  obtain ⟨q1, d1, rfl, _, _⟩ := row_in_own ho1
  have K1 := hid (K0.out.trans (hb1.mono K0.out.size))
  have V1 := hid ((hb1.block w.heap.size (by omega)).trans V0.out)
  have R1 := hid ((hb1.block (w.heap.size + 1) (by omega)).trans R0.out)
  have O1 := hid ((hb1.block (w.heap.size + 2) (by omega)).trans O0.out)
  have HO1 := hid ho1
  have hz1 := hb1.size
  have hz1a : w.heap.size < w1.heap.size := by omega
  have hz1b : w.heap.size + 1 < w1.heap.size := by omega
  have hz1c : w.heap.size + 2 < w1.heap.size := by omega
  clear hb1 ho1
  obtain ⟨k0, k1, k2, k3, k4⟩ := five_cells V1.out
  obtain ⟨j0, j1, j2, j3, j4⟩ := five_cells O1.out
  have f1 := five_thaw O1.out 1
  have f2 := five_thaw O1.out 2
  have f3 := five_thaw O1.out 3
  have f4 := five_thaw O1.out 4
  obtain ⟨W1, hW1⟩ : ∃ W1, W1 = ((w1.setCell ⟨w.heap.size + 1 + 1, 1, none⟩ (.int .i64 s)).setCell ⟨w.heap.size + 1 + 1, 2, none⟩ (.slice q1 l.length d1)).setCell ⟨w.heap.size + 1 + 1, 3, none⟩ (.bool up) := ⟨_, rfl⟩
  have K1s : Hid (Below w.heap.size w W1) := hid (by rw [hW1]; exact ((K1.out.setCell (p := ⟨w.heap.size + 1 + 1, 1, none⟩) (by show w.heap.size ≤ w.heap.size + 1 + 1; omega) _).setCell (p := ⟨w.heap.size + 1 + 1, 2, none⟩) (by show w.heap.size ≤ w.heap.size + 1 + 1; omega) _).setCell (p := ⟨w.heap.size + 1 + 1, 3, none⟩) (by show w.heap.size ≤ w.heap.size + 1 + 1; omega) _)
  have V1s : Hid (W1.heap[w.heap.size]? = some (.cells #[.string key, .int .i64 s, .slice p1 l.length c1, .bool up, .slice p2 ps.length c2] 27)) := hid (by rw [hW1, Below.heap_setCell _ _ _ _ (by show w.heap.size ≠ w.heap.size + 1 + 1; omega), Below.heap_setCell _ _ _ _ (by show w.heap.size ≠ w.heap.size + 1 + 1; omega), Below.heap_setCell _ _ _ _ (by show w.heap.size ≠ w.heap.size + 1 + 1; omega)]; exact V1.out)
  have R1s : Hid (W1.heap[w.heap.size + 1]? = some (.cells #[.string ⟨#[]⟩, .int .i64 0, .slice none 0 0, .bool false, .slice none 0 0] 31)) := hid (by rw [hW1, Below.heap_setCell _ _ _ _ (by show w.heap.size + 1 ≠ w.heap.size + 1 + 1; omega), Below.heap_setCell _ _ _ _ (by show w.heap.size + 1 ≠ w.heap.size + 1 + 1; omega), Below.heap_setCell _ _ _ _ (by show w.heap.size + 1 ≠ w.heap.size + 1 + 1; omega)]; exact R1.out)
  have O1s : Hid (W1.heap[w.heap.size + 1 + 1]? = some (.cells #[.string key, .int .i64 s, .slice q1 l.length d1, .bool up, .slice none 0 0] 31)) := hid (by
    rw [hW1]
    exact (heap_setCell_same _ _ 3 _ _ _ (heap_setCell_same _ _ 2 _ _ _ (heap_setCell_same w1 (w.heap.size + 1 + 1) 1 _ _ _ O1.out))))
  have hz1s : w1.heap.size = W1.heap.size := by rw [hW1]; simp
  have HO1s : Hid (W1.ownsRow w.heap.size 2 1 (.slice q1 l.length d1) l.length (ints l)) := hid (by
    have hne : (Value.slice q1 l.length d1).ownBlock ≠ some (w.heap.size + 1 + 1) := fun e => by
      have := (HO1.out.lt _ e).1
      have := HZ0.out
      omega
    rw [hW1]
    exact own_raise (ownsRow_setCell_other (ownsRow_setCell_other (ownsRow_setCell_other HO1.out (a := ⟨w.heap.size + 1 + 1, 1, none⟩) hne _) (a := ⟨w.heap.size + 1 + 1, 2, none⟩) hne _) (a := ⟨w.heap.size + 1 + 1, 3, none⟩) hne _) (by have := HZ0.out; omega))
  have HZ1s := hid hz1s
  have HW1 := hid hW1
  clear hW1 hz1s
  go_wp2_with (go_at_call 54; rw [← HW1.out]; refine (to_calls ps hn _ _ (H2.out.on K1s.out)).mono ?_; rintro e w2 ⟨sv2, rfl, hb2, ho2⟩; refine Hid.out ?_)
  refine hid ?_
  obtain ⟨q2, d2, rfl, _⟩ := own_shape ho2
  clear k0 k1 k2 k3 k4 j0 j1 j2 j3 j4 f1 f2 f3 f4
  have hlt1 : w.heap.size + 1 + 1 < W1.heap.size := by have := HZ1s.out; omega
  have K2 := hid (K1s.out.trans (hb2.mono K1s.out.size))
  have R2 := hid ((hb2.block (w.heap.size + 1) (by omega)).trans R1s.out)
  have O2 := hid ((hb2.block (w.heap.size + 1 + 1) hlt1).trans O1s.out)
  have HO1t := hid (own_below HO1s.out hb2)
  have HO2 := hid ho2
  have hz2 := hb2.size
  have hz2b : w.heap.size + 1 < w2.heap.size := by omega
  have hz2c : w.heap.size + 1 + 1 < w2.heap.size := by omega
  clear hb2 ho2
  obtain ⟨j0, j1, j2, j3, j4⟩ := five_cells O2.out
  obtain ⟨r0, r1, r2, r3, r4⟩ := five_cells R2.out
  have f4 := five_thaw O2.out 4
  have g0 := five_thaw R2.out 0
  have g1 := five_thaw R2.out 1
  have g2 := five_thaw R2.out 2
  have g3 := five_thaw R2.out 3
  have g4 := five_thaw R2.out 4
  go_wp2
  refine bodyPost_ret (v := .agg #[.string key, .int .i64 s, .slice q1 l.length d1, .bool up, .slice q2 ps.length d2]) (by simp [results, Tryd.results12, go_sem, r0, r1, r2, r3, r4]) rfl ⟨_, _, rfl, ?_, ?_, ?_, fun j k hj hk => Nat.lt_of_lt_of_le (HO1s.out.lt j hj).2 (HO2.out.lt k hk).1⟩
  · exact (((((K2.out.setCell (p := ⟨w.heap.size + 1 + 1, 4, none⟩) (by show w.heap.size ≤ w.heap.size + 1 + 1; omega) _).setCell (p := ⟨w.heap.size + 1, 0, none⟩) (Nat.le_succ _) _).setCell (p := ⟨w.heap.size + 1, 1, none⟩) (Nat.le_succ _) _).setCell (p := ⟨w.heap.size + 1, 2, none⟩) (Nat.le_succ _) _).setCell (p := ⟨w.heap.size + 1, 3, none⟩) (Nat.le_succ _) _).setCell (p := ⟨w.heap.size + 1, 4, none⟩) (Nat.le_succ _) _
  · have n1 : (Value.slice q1 l.length d1).ownBlock ≠ some (w.heap.size + 1 + 1) := fun e => by have := (HO1.out.lt _ e).1; have := HZ0.out; omega
    have n2 : (Value.slice q1 l.length d1).ownBlock ≠ some (w.heap.size + 1) := fun e => by have := (HO1.out.lt _ e).1; have := HZ0.out; omega
    exact own_six HO1t.out n1 n2 _ _ _ _ _ _
  · have n1 : (Value.slice q2 ps.length d2).ownBlock ≠ some (w.heap.size + 1 + 1) := fun e => by have := (HO2.out.lt _ e).1; omega
    have n2 : (Value.slice q2 ps.length d2).ownBlock ≠ some (w.heap.size + 1) := fun e => by have := (HO2.out.lt _ e).1; omega
    exact own_six (own_lower HO2.out K1s.out.size) n1 n2 _ _ _ _ _ _

theorem to_root (key : ByteArray) (s : Int) (l : List Int) (hl : l.length ≤ 1048576) (up : Bool) (ps : List (List UInt8)) (hn : ps.length ≤ 1048576) (a1 a2 : Value) (w : World) (h1 : ArgInts w a1 l) (h2 : ArgAt w a2 ps) :
    Calls Tryd.prog 12 #[.agg #[.string key, .int .i64 s, a1, .bool up, a2]] w fun e w' => ∃ sv1 sv2, e = .returned (.agg #[.string key, .int .i64 s, sv1, .bool up, sv2]) ∧ Below w.heap.size w w' ∧ w'.ownsRow w.heap.size 2 1 sv1 l.length (ints l) ∧ w'.ownsRow w.heap.size 9 1 sv2 ps.length (strs ps) :=
  (to_root2 key s l hl up ps hn a1 a2 w h1 h2).mono fun _ _ ⟨sv1, sv2, he, hb, ho1, ho2, _⟩ => ⟨sv1, sv2, he, hb, ho1, ho2⟩
end Go.Proofs.YtphabggmbdpibaaDoor
