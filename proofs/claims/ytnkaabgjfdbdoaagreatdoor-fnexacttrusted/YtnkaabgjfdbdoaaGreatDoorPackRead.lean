/- Laid together: RootHelp2, NvReadI, NvSpecRead, NvSpecRead2. -/
import Derived.Test.YtnkaabgjfdbdoaaGreatDoorRootHelp
import Derived.OneCell
import Derived.Test.YtnkaabgjfdbdoaaGreatDoorPackHelp
import Derived.Test.YtnkaabgjfdbdoaaGreatDoorShelf

namespace Go.Proofs.YtnkaabgjfdbdoaaGreatDoor
open Go.RowKit
open Go.Lib (hid)

theorem three_first {w : World} (x y z : Obj) : (((w.alloc x).alloc y).alloc z).heap[w.heap.size]? = some x := by
  have h := heap_alloc_new w x
  rw [(((Below.refl (w.alloc x).heap.size (w.alloc x)).alloc (Nat.le_refl _) y).alloc (by simp) z).block _ (by simp)]
  exact h

theorem three_mid {w : World} (x y z : Obj) : (((w.alloc x).alloc y).alloc z).heap[w.heap.size + 1]? = some y := by
  have h := heap_alloc_new (w.alloc x) y
  have h2 : ((w.alloc x).alloc y).heap[w.heap.size + 1]? = some y := by simpa using h
  rw [((Below.refl ((w.alloc x).alloc y).heap.size ((w.alloc x).alloc y)).alloc (Nat.le_refl _) z).block _ (by simp)]
  exact h2

theorem three_last {w : World} (x y z : Obj) : (((w.alloc x).alloc y).alloc z).heap[w.heap.size + 2]? = some z := by
  have h := heap_alloc_new ((w.alloc x).alloc y) z
  simpa using h

theorem own_lower {w : World} {base base' size n : Nat} {e : TypeId} {v : Value} {xs : List Value} (h : w.ownsRow base e size v n xs) (hb : base' ≤ base) : w.ownsRow base' e size v n xs :=
  ⟨h.1, h.2.imp id fun ⟨g, cap, cur, a1, a2, a3⟩ => ⟨g, cap, cur, a1, Nat.le_trans hb a2, a3⟩⟩

theorem own_six {w : World} {base size n b c : Nat} {e : TypeId} {v : Value} {xs : List Value} (h : w.ownsRow base e size v n xs) (h1 : v.ownBlock ≠ some b) (h2 : v.ownBlock ≠ some c) (x x0 x1 x2 x3 x4 : Value) :
    ((((((w.setCell ⟨b, 4, none⟩ x).setCell ⟨c, 0, none⟩ x0).setCell ⟨c, 1, none⟩ x1).setCell ⟨c, 2, none⟩ x2).setCell ⟨c, 3, none⟩ x3).setCell ⟨c, 4, none⟩ x4).ownsRow base e size v n xs :=
  ownsRow_setCell_other (ownsRow_setCell_other (ownsRow_setCell_other (ownsRow_setCell_other (ownsRow_setCell_other (ownsRow_setCell_other h (a := ⟨b, 4, none⟩) h1 x) (a := ⟨c, 0, none⟩) h2 x0) (a := ⟨c, 1, none⟩) h2 x1) (a := ⟨c, 2, none⟩) h2 x2) (a := ⟨c, 3, none⟩) h2 x3) (a := ⟨c, 4, none⟩) h2 x4

theorem five_thaw {W : World} {b : Nat} {V : Array Value} {t : TypeId} (h : W.heap[b]? = some (.cells V t)) (o : Nat) : W.frozen? ⟨b, o, none⟩ = false := by simp [World.frozen?, h]

set_option maxRecDepth 20000 in
set_option maxHeartbeats 2000000 in
theorem eq_root (key : ByteArray) (s : Int) (l : List Int) (hl : l.length ≤ 1000000000) (up : Bool) (ps : List (List UInt8)) (hn : ps.length ≤ 1000000000) (a1 a2 b1 b2 : Value) (w : World) (ha1 : RowIn w a1 l) (ha2 : TextsAt w a2 ps) (hb1 : RowIn w b1 l) (hb2 : TextsAt w b2 ps) :
    Calls Tryz.prog 46 #[.agg #[.string key, .int .i64 s, a1, .bool up, a2], .agg #[.string key, .int .i64 s, b1, .bool up, b2]] w fun e w' => e = .returned (.bool true) ∧ Below w.heap.size w w' := by
  have HA1 := hid ha1
  have HA2 := hid ha2
  have HB1 := hid hb1
  have HB2 := hid hb2
  obtain ⟨p1, c1, rfl, _, _⟩ := ha1
  obtain ⟨p2, c2, rfl, _⟩ := ha2
  obtain ⟨q1, d1, rfl, _, _⟩ := hb1
  obtain ⟨q2, d2, rfl, _⟩ := hb2
  obtain ⟨W0, hW0⟩ : ∃ W0, W0 = (w.alloc (.cells #[.string key, .int .i64 s, .slice p1 l.length c1, .bool up, .slice p2 ps.length c2] 41)).alloc (.cells #[.string key, .int .i64 s, .slice q1 l.length d1, .bool up, .slice q2 ps.length d2] 41) := ⟨_, rfl⟩
  have K0 : Hid (Below w.heap.size w W0) := hid (by rw [hW0]; exact ((Below.refl _ _).alloc (Nat.le_refl _) _).alloc (by simp) _)
  have V0 : Hid (W0.heap[w.heap.size]? = some (.cells #[.string key, .int .i64 s, .slice p1 l.length c1, .bool up, .slice p2 ps.length c2] 41)) := hid (by
    rw [hW0, (((Below.refl _ _).alloc (Nat.le_refl _) _).block _ (by simp))]
    exact heap_alloc_new _ _)
  have U0 : Hid (W0.heap[w.heap.size + 1]? = some (.cells #[.string key, .int .i64 s, .slice q1 l.length d1, .bool up, .slice q2 ps.length d2] 41)) := hid (by
    rw [hW0]
    have h := heap_alloc_new (w.alloc (.cells #[.string key, .int .i64 s, .slice p1 l.length c1, .bool up, .slice p2 ps.length c2] 41)) (.cells #[.string key, .int .i64 s, .slice q1 l.length d1, .bool up, .slice q2 ps.length d2] 41)
    simpa using h)
  have hz0 : w.heap.size + 1 < W0.heap.size := by rw [hW0]; simp
  have hkk : (key.toList == key.toList) = true := by simp
  have hkn : (key.toList != key.toList) = false := by simp
  have huu : (up != up) = false := by cases up <;> rfl
  have HW0 := hid hW0
  clear hW0
  go_enter Tryz.func46, Tryz.ntmps46
  go_wp2_with (go_at_call 106; rw [← HW0.out]; refine (eq_nv s l hl _ _ _ (HA1.out.on K0.out) (HB1.out.on K0.out)).mono ?_; rintro e w1 ⟨rfl, hb1⟩; refine Hid.out ?_)
  refine hid ?_
  have K1 := hid (K0.out.trans (hb1.mono K0.out.size))
  have V1 := hid ((hb1.block w.heap.size (by omega)).trans V0.out)
  have U1 := hid ((hb1.block (w.heap.size + 1) (by omega)).trans U0.out)
  obtain ⟨k0, k1, k2, k3, k4⟩ := five_cells V1.out
  obtain ⟨j0, j1, j2, j3, j4⟩ := five_cells U1.out
  clear hb1
  go_wp2_with (go_at_call 107; refine (eq_same ps hn _ _ _ (HA2.out.on K1.out) (HB2.out.on K1.out)).mono ?_; rintro e w2 ⟨rfl, hb2⟩; refine Hid.out ?_)
  refine hid ?_
  have K2 := hid (K1.out.trans (hb2.mono K1.out.size))
  clear hb2
  go_wp2
  go_ret
  exact ⟨rfl, K2.out⟩

set_option maxRecDepth 20000 in
set_option maxHeartbeats 2000000 in
theorem to_root2 (key : ByteArray) (s : Int) (l : List Int) (hl : l.length ≤ 1048576) (up : Bool) (ps : List (List UInt8)) (hn : ps.length ≤ 1048576) (a1 a2 : Value) (w : World) (h1 : ArgInts w a1 l) (h2 : ArgAt w a2 ps) :
    Calls Tryz.prog 37 #[.agg #[.string key, .int .i64 s, a1, .bool up, a2]] w fun e w' => ∃ sv1 sv2, e = .returned (.agg #[.string key, .int .i64 s, sv1, .bool up, sv2]) ∧ Below w.heap.size w w' ∧ w'.ownsRow w.heap.size 2 1 sv1 l.length (ints l) ∧ w'.ownsRow w.heap.size 9 1 sv2 ps.length (strs ps) ∧ (∀ j k, sv1.ownBlock = some j → sv2.ownBlock = some k → j < k) := by
  have H1 := hid h1
  have H2 := hid h2
  obtain ⟨p1, c1, rfl, _⟩ := h1
  obtain ⟨p2, c2, rfl, _⟩ := h2
  obtain ⟨W0, hW0⟩ : ∃ W0, W0 = ((w.alloc (.cells #[.string key, .int .i64 s, .slice p1 l.length c1, .bool up, .slice p2 ps.length c2] 27)).alloc (.cells #[.string ⟨#[]⟩, .int .i64 0, .slice none 0 0, .bool false, .slice none 0 0] 41)).alloc (.cells #[.string key, .int .i64 0, .slice none 0 0, .bool false, .slice none 0 0] 41) := ⟨_, rfl⟩
  have K0 : Hid (Below w.heap.size w W0) := hid (by rw [hW0]; exact (((Below.refl _ _).alloc (Nat.le_refl _) _).alloc (by simp) _).alloc (by simp; omega) _)
  have V0 : Hid (W0.heap[w.heap.size]? = some (.cells #[.string key, .int .i64 s, .slice p1 l.length c1, .bool up, .slice p2 ps.length c2] 27)) := hid (by rw [hW0]; exact three_first _ _ _)
  have R0 : Hid (W0.heap[w.heap.size + 1]? = some (.cells #[.string ⟨#[]⟩, .int .i64 0, .slice none 0 0, .bool false, .slice none 0 0] 41)) := hid (by rw [hW0]; exact three_mid _ _ _)
  have O0 : Hid (W0.heap[w.heap.size + 2]? = some (.cells #[.string key, .int .i64 0, .slice none 0 0, .bool false, .slice none 0 0] 41)) := hid (by rw [hW0]; exact three_last _ _ _)
  have hz0 : w.heap.size + 3 = W0.heap.size := by rw [hW0]; simp
  have hz0a : w.heap.size + 2 < W0.heap.size := by omega
  have HZ0 := hid hz0
  have HW0 := hid hW0
  clear hW0 hz0
  go_enter Tryz.func37, Tryz.ntmps37
  go_wp2_with (go_at_call 93; rw [← HW0.out]; refine (to_nv s l hl _ _ (H1.out.on K0.out)).mono ?_; rintro e w1 ⟨sv1, rfl, hb1, ho1⟩; refine Hid.out ?_)
  refine hid ?_
  obtain ⟨q1, d1, rfl, _, _⟩ := row_in_own ho1
  have K1 := hid (K0.out.trans (hb1.mono K0.out.size))
  have V1 := hid ((hb1.block w.heap.size (by omega)).trans V0.out)
  have R1 := hid ((hb1.block (w.heap.size + 1) (by omega)).trans R0.out)
  have O1 := hid ((hb1.block (w.heap.size + 2) (by omega)).trans O0.out)
  have HO1 := hid ho1
  have hz1 := hb1.size
  have hz1a : w.heap.size < w1.heap.size := by omega
  have hz1b : w.heap.size + 1 < w1.heap.size := by omega
  have hz1c : w.heap.size + 2 < w1.heap.size := by omega
  clear hb1 ho1
  obtain ⟨k0, k1, k2, k3, k4⟩ := five_cells V1.out
  obtain ⟨j0, j1, j2, j3, j4⟩ := five_cells O1.out
  have f1 := five_thaw O1.out 1
  have f2 := five_thaw O1.out 2
  have f3 := five_thaw O1.out 3
  have f4 := five_thaw O1.out 4
  obtain ⟨W1, hW1⟩ : ∃ W1, W1 = ((w1.setCell ⟨w.heap.size + 1 + 1, 1, none⟩ (.int .i64 s)).setCell ⟨w.heap.size + 1 + 1, 2, none⟩ (.slice q1 l.length d1)).setCell ⟨w.heap.size + 1 + 1, 3, none⟩ (.bool up) := ⟨_, rfl⟩
  have K1s : Hid (Below w.heap.size w W1) := hid (by rw [hW1]; exact ((K1.out.setCell (p := ⟨w.heap.size + 1 + 1, 1, none⟩) (by show w.heap.size ≤ w.heap.size + 1 + 1; omega) _).setCell (p := ⟨w.heap.size + 1 + 1, 2, none⟩) (by show w.heap.size ≤ w.heap.size + 1 + 1; omega) _).setCell (p := ⟨w.heap.size + 1 + 1, 3, none⟩) (by show w.heap.size ≤ w.heap.size + 1 + 1; omega) _)
  have V1s : Hid (W1.heap[w.heap.size]? = some (.cells #[.string key, .int .i64 s, .slice p1 l.length c1, .bool up, .slice p2 ps.length c2] 27)) := hid (by rw [hW1, Below.heap_setCell _ _ _ _ (by show w.heap.size ≠ w.heap.size + 1 + 1; omega), Below.heap_setCell _ _ _ _ (by show w.heap.size ≠ w.heap.size + 1 + 1; omega), Below.heap_setCell _ _ _ _ (by show w.heap.size ≠ w.heap.size + 1 + 1; omega)]; exact V1.out)
  have R1s : Hid (W1.heap[w.heap.size + 1]? = some (.cells #[.string ⟨#[]⟩, .int .i64 0, .slice none 0 0, .bool false, .slice none 0 0] 41)) := hid (by rw [hW1, Below.heap_setCell _ _ _ _ (by show w.heap.size + 1 ≠ w.heap.size + 1 + 1; omega), Below.heap_setCell _ _ _ _ (by show w.heap.size + 1 ≠ w.heap.size + 1 + 1; omega), Below.heap_setCell _ _ _ _ (by show w.heap.size + 1 ≠ w.heap.size + 1 + 1; omega)]; exact R1.out)
  have O1s : Hid (W1.heap[w.heap.size + 1 + 1]? = some (.cells #[.string key, .int .i64 s, .slice q1 l.length d1, .bool up, .slice none 0 0] 41)) := hid (by
    rw [hW1]
    exact (heap_setCell_same _ _ 3 _ _ _ (heap_setCell_same _ _ 2 _ _ _ (heap_setCell_same w1 (w.heap.size + 1 + 1) 1 _ _ _ O1.out))))
  have hz1s : w1.heap.size = W1.heap.size := by rw [hW1]; simp
  have HO1s : Hid (W1.ownsRow w.heap.size 2 1 (.slice q1 l.length d1) l.length (ints l)) := hid (by
    have hne : (Value.slice q1 l.length d1).ownBlock ≠ some (w.heap.size + 1 + 1) := fun e => by
      have := (HO1.out.lt _ e).1
      have := HZ0.out
      omega
    rw [hW1]
    exact own_raise (ownsRow_setCell_other (ownsRow_setCell_other (ownsRow_setCell_other HO1.out (a := ⟨w.heap.size + 1 + 1, 1, none⟩) hne _) (a := ⟨w.heap.size + 1 + 1, 2, none⟩) hne _) (a := ⟨w.heap.size + 1 + 1, 3, none⟩) hne _) (by have := HZ0.out; omega))
  have HZ1s := hid hz1s
  have HW1 := hid hW1
  clear hW1 hz1s
  go_wp2_with (go_at_call 94; rw [← HW1.out]; refine (to_calls ps hn _ _ (H2.out.on K1s.out)).mono ?_; rintro e w2 ⟨sv2, rfl, hb2, ho2⟩; refine Hid.out ?_)
  refine hid ?_
  obtain ⟨q2, d2, rfl, _⟩ := own_shape ho2
  clear k0 k1 k2 k3 k4 j0 j1 j2 j3 j4 f1 f2 f3 f4
  have hlt1 : w.heap.size + 1 + 1 < W1.heap.size := by have := HZ1s.out; omega
  have K2 := hid (K1s.out.trans (hb2.mono K1s.out.size))
  have R2 := hid ((hb2.block (w.heap.size + 1) (by omega)).trans R1s.out)
  have O2 := hid ((hb2.block (w.heap.size + 1 + 1) hlt1).trans O1s.out)
  have HO1t := hid (own_below HO1s.out hb2)
  have HO2 := hid ho2
  have hz2 := hb2.size
  have hz2b : w.heap.size + 1 < w2.heap.size := by omega
  have hz2c : w.heap.size + 1 + 1 < w2.heap.size := by omega
  clear hb2 ho2
  obtain ⟨j0, j1, j2, j3, j4⟩ := five_cells O2.out
  obtain ⟨r0, r1, r2, r3, r4⟩ := five_cells R2.out
  have f4 := five_thaw O2.out 4
  have g0 := five_thaw R2.out 0
  have g1 := five_thaw R2.out 1
  have g2 := five_thaw R2.out 2
  have g3 := five_thaw R2.out 3
  have g4 := five_thaw R2.out 4
  go_wp2
  refine bodyPost_ret (v := .agg #[.string key, .int .i64 s, .slice q1 l.length d1, .bool up, .slice q2 ps.length d2]) (by simp [results, Tryz.results37, go_sem, r0, r1, r2, r3, r4]) rfl ⟨_, _, rfl, ?_, ?_, ?_, fun j k hj hk => Nat.lt_of_lt_of_le (HO1s.out.lt j hj).2 (HO2.out.lt k hk).1⟩
  · exact (((((K2.out.setCell (p := ⟨w.heap.size + 1 + 1, 4, none⟩) (by show w.heap.size ≤ w.heap.size + 1 + 1; omega) _).setCell (p := ⟨w.heap.size + 1, 0, none⟩) (Nat.le_succ _) _).setCell (p := ⟨w.heap.size + 1, 1, none⟩) (Nat.le_succ _) _).setCell (p := ⟨w.heap.size + 1, 2, none⟩) (Nat.le_succ _) _).setCell (p := ⟨w.heap.size + 1, 3, none⟩) (Nat.le_succ _) _).setCell (p := ⟨w.heap.size + 1, 4, none⟩) (Nat.le_succ _) _
  · have n1 : (Value.slice q1 l.length d1).ownBlock ≠ some (w.heap.size + 1 + 1) := fun e => by have := (HO1.out.lt _ e).1; have := HZ0.out; omega
    have n2 : (Value.slice q1 l.length d1).ownBlock ≠ some (w.heap.size + 1) := fun e => by have := (HO1.out.lt _ e).1; have := HZ0.out; omega
    exact own_six HO1t.out n1 n2 _ _ _ _ _ _
  · have n1 : (Value.slice q2 ps.length d2).ownBlock ≠ some (w.heap.size + 1 + 1) := fun e => by have := (HO2.out.lt _ e).1; omega
    have n2 : (Value.slice q2 ps.length d2).ownBlock ≠ some (w.heap.size + 1) := fun e => by have := (HO2.out.lt _ e).1; omega
    exact own_six (own_lower HO2.out K1s.out.size) n1 n2 _ _ _ _ _ _

theorem to_root (key : ByteArray) (s : Int) (l : List Int) (hl : l.length ≤ 1048576) (up : Bool) (ps : List (List UInt8)) (hn : ps.length ≤ 1048576) (a1 a2 : Value) (w : World) (h1 : ArgInts w a1 l) (h2 : ArgAt w a2 ps) :
    Calls Tryz.prog 37 #[.agg #[.string key, .int .i64 s, a1, .bool up, a2]] w fun e w' => ∃ sv1 sv2, e = .returned (.agg #[.string key, .int .i64 s, sv1, .bool up, sv2]) ∧ Below w.heap.size w w' ∧ w'.ownsRow w.heap.size 2 1 sv1 l.length (ints l) ∧ w'.ownsRow w.heap.size 9 1 sv2 ps.length (strs ps) :=
  (to_root2 key s l hl up ps hn a1 a2 w h1 h2).mono fun _ _ ⟨sv1, sv2, he, hb, ho1, ho2, _⟩ => ⟨sv1, sv2, he, hb, ho1, ho2⟩
end Go.Proofs.YtnkaabgjfdbdoaaGreatDoor

namespace Go.Proofs.YtnkaabgjfdbdoaaGreatDoor
open Go.RowKit
open Go.Lib (hid)

/-! The parts of a copy's words. -/
def cpK (l : List Int) : Int := l.getD 0 0
def cpC (l : List Int) : Int := l.getD (l.length - 1) 0
def cpN (l : List Int) : List Int := (l.drop 1).take (l.length - 2)
/-- Is a copy whole? -/
def wholeL (l : List Int) : Bool := wholeB (cpK l) (cpN l) (cpC l)

theorem padN_sum (l : List Int) : (padN l).sum = (cpN l).sum := by unfold padN cpN; rw [List.sum_append, noughts_sum]; omega

theorem wholeB_pad (l : List Int) : wholeB (cpK l) (padN l) (cpC l) = wholeL l := by unfold wholeL wholeB; rw [padN_sum]

theorem padN_len (l : List Int) (h2 : 2 ≤ l.length) (h22 : l.length ≤ 22) : (padN l).length = 20 := by unfold padN; simp [noughts_len]; omega

theorem padN_numb {l : List Int} (h : Numb l) : Numb (padN l) := fun x hx => by
  unfold padN at hx
  rcases List.mem_append.1 hx with hx | hx
  · exact h x (List.mem_of_mem_drop (List.mem_of_mem_take hx))
  · exact noughts_numb _ x hx

theorem cpC_bd {l : List Int} (h : Numb l) : 0 ≤ cpC l ∧ cpC l ≤ 1000000000 := by
  unfold cpC
  by_cases hl : l.length - 1 < l.length
  · have : l.getD (l.length - 1) 0 = l[l.length - 1] := by simp [List.getD, hl]
    rw [this]
    exact h _ (List.getElem_mem hl)
  · have : l.getD (l.length - 1) 0 = 0 := by simp [List.getD, hl]
    omega

theorem numb_drop {l : List Int} (h : Numb l) (i : Nat) : Numb (l.drop i) := fun x hx => h x (List.mem_of_mem_drop hx)

theorem cpN_pad (l : List Int) (h2 : 2 ≤ l.length) : (padN l).take (l.length - 2) = cpN l := by
  have e : (cpN l).length = l.length - 2 := by unfold cpN; simp; omega
  have : padN l = cpN l ++ noughts (22 - l.length) := rfl
  rw [this, ← e, List.take_left]

attribute [local go_sem ↓] buildD_eq storeD_eq loadD_eq

theorem storeD_new (W : World) (c' V : Array Value) (h' : c'.size = 44) (hV : V.size = 44) (h1 : V.all (·.oneCell') = true) : (storeD (.pointer (some ⟨W.heap.size, 0, none⟩)) (.agg V)).run Tryz.prog (W.alloc (.cells c' 239)) = .ok () (W.alloc (.cells V 239)) :=
  run_storeAt_new W _ _ _ (by rw [hV]; kernel_rfl) (by rw [hV]; exact h') h1

theorem loadD_new (W : World) (V : Array Value) (hV : V.size = 44) : (loadD (.pointer (some ⟨W.heap.size, 0, none⟩))).run Tryz.prog (W.alloc (.cells V 239)) = .ok (.agg V) (W.alloc (.cells V 239)) :=
  run_loadAt_new W _ _ 2 238 Tryz.underlying239 (by rw [hV]; kernel_rfl)

theorem nvRead_ill (size : Int) (ws : List Int) (hn : ws.length ≤ 1048576) (hf : formB size ws = false) (a : Value) (w : World) (ha : RowIn w a ws) :
    Calls Tryz.prog 176 #[.agg #[.int .i64 size, a]] w fun e w' => e = .returned (.tuple #[.slice none 0 0, .int .i64 0, .bool false]) ∧ Below w.heap.size w w' := by
  have HA := hid ha
  have CF := hid (fun a W (hW : RowIn W a ws) => formed_calls size ws hn a W hW)
  rw [hf] at CF
  obtain ⟨p, c, rfl, hc, _⟩ := ha
  have HW : Hid (Below w.heap.size w (w.alloc (.cells #[.int .i64 size, .slice p ws.length c] 39))) := hid ((Below.refl _ _).alloc (Nat.le_refl _) _)
  go_enter Tryz.func176, Tryz.ntmps176
  go_wp2_with (go_at_call 190; refine (CF.out _ _ (HA.out.on HW.out)).mono ?_; rintro e w1 ⟨rfl, hb1⟩)
  go_ret3
  exact ⟨rfl, HW.out.trans (hb1.mono HW.out.size)⟩

set_option maxRecDepth 20000 in
set_option maxHeartbeats 1000000 in
theorem nvRead_none (m h : Nat) (hh : h = m + 2) (h1 : 1 ≤ m) (h20 : m ≤ 20) (ws : List Int) (hws : ws.length = 2 * h) (hnb : Numb ws) (hst : (standP (wholeL (ws.take h)) (wholeL (ws.drop h)) (cpC (ws.take h)) (cpC (ws.drop h))).2 = false) (a : Value) (w : World) (ha : RowIn w a ws) :
    Calls Tryz.prog 176 #[.agg #[.int .i64 m, a]] w fun e w' => e = .returned (.tuple #[.slice none 0 0, .int .i64 0, .bool false]) ∧ Below w.heap.size w w' := by
  have HA := hid ha
  have lT : (ws.take h).length = h := by rw [List.length_take]; omega
  have lD : (ws.drop h).length = h := by rw [List.length_drop]; omega
  have CF := hid (fun a W (hW : RowIn W a ws) => formed_calls m ws (by omega) a W hW)
  rw [formB_iff.2 ⟨by omega, by omega, by omega, hnb⟩] at CF
  have CC := hid (fun a W (hW : RowIn W a ws) => copiesOf_calls m h hh h1 h20 ws hws a W hW)
  have CS := hid (fun W => standing_calls (cpK (ws.take h)) (cpK (ws.drop h)) (cpC (ws.take h)) (cpC (ws.drop h)) (padN (ws.take h)) (padN (ws.drop h)) (padN_len _ (by omega) (by omega)) (padN_len _ (by omega) (by omega)) (padN_numb (numb_take hnb h)) (padN_numb (numb_drop hnb h)) (cpC_bd (numb_take hnb h)) (cpC_bd (numb_drop hnb h)) W)
  rw [wholeB_pad, wholeB_pad, hst] at CS
  have hA := copyV_size (ws.take h) (by omega) (by omega)
  have hB := copyV_size (ws.drop h) (by omega) (by omega)
  have o1 : (copyV (ws.take h) ++ copyV (ws.drop h)).size = 44 := by rw [Array.size_append, hA, hB]
  have o2 : (copyV (ws.take h) ++ copyV (ws.drop h)).all (·.oneCell') = true := by rw [Array.all_append, copyV, copyV, nvc_one, nvc_one]; rfl
  have hsd := fun W c' h' => storeD_new W c' _ h' o1 o2
  have hld := fun W => loadD_new W _ o1
  have CS' : Hid (∀ W, Calls Tryz.prog 192 #[.agg (copyV (ws.take h) ++ copyV (ws.drop h))] W fun e w' => ∃ i, e = .returned (.tuple #[.int .i64 i, .bool false]) ∧ Below W.heap.size W w') := hid (fun W => (CS.out W).mono fun e w' ⟨he, hb⟩ => ⟨_, he, hb⟩)
  generalize copyV (ws.take h) ++ copyV (ws.drop h) = V at *
  obtain ⟨p, c, rfl, hc, _⟩ := ha
  have HW : Hid (Below w.heap.size w (w.alloc (.cells #[.int .i64 m, .slice p ws.length c] 39))) := hid ((Below.refl _ _).alloc (Nat.le_refl _) _)
  clear hst CS hA hB o1 o2 lT lD hws hnb
  go_enter Tryz.func176, Tryz.ntmps176
  go_wp2_with (go_at_call 190; refine (CF.out _ _ (HA.out.on HW.out)).mono ?_; rintro e w1 ⟨rfl, hb1⟩; refine Hid.out ?_)
  refine hid ?_
  have k0 := hb1.cell (p := ⟨w.heap.size, 0, none⟩) (by simp)
  have k1 := hb1.cell (p := ⟨w.heap.size, 1, none⟩) (by simp)
  have HB1 := hid (HW.out.trans (hb1.mono HW.out.size))
  clear hb1
  go_wp2_with (first | (go_at_call 191; refine (CC.out _ _ (HA.out.on HB1.out)).mono ?_; rintro e w2 ⟨rfl, hb2⟩; have HB2 := hid (HB1.out.trans (hb2.mono HB1.out.size)); clear hb2) | (go_at_call 192; refine (CS'.out _).mono ?_; rintro e w3 ⟨i, rfl, hb3⟩; have HB3 := hid ((HB2.out.alloc HB2.out.size (.cells V 239)).trans (hb3.mono (by simp; have := HB2.out.size; omega))); clear hb3))
  go_ret3
  exact ⟨rfl, HB3.out⟩

theorem copy_cells (l : List Int) (h2 : 2 ≤ l.length) (h22 : l.length ≤ 22) : (∀ j u, (ints (cpN l))[j]? = some u → (copyV l)[1 + j]? = some u) ∧ (copyV l)[21]? = some (.int .i64 (cpC l)) := by
  refine ⟨fun j u hj => ?_, nvc_last _ _ _ (padN_len l h2 h22)⟩
  have hjl : j < (cpN l).length := by rw [← ints_len]; exact (List.getElem?_eq_some_iff.1 hj).1
  rw [ints_at _ j hjl] at hj
  have e : padN l = cpN l ++ noughts (22 - l.length) := rfl
  have := nvc_at (l.getD 0 0) (l.getD (l.length - 1) 0) (padN l) j (by rw [e, List.length_append]; omega)
  unfold copyV
  rw [this, ← hj, e]
  simp [List.getD, List.getElem?_append_left hjl, hjl]

set_option maxRecDepth 20000 in
set_option maxHeartbeats 2000000 in
theorem nvRead_yes (m h : Nat) (hh : h = m + 2) (h1 : 1 ≤ m) (h20 : m ≤ 20) (ws : List Int) (hws : ws.length = 2 * h) (hnb : Numb ws) (i : Nat) (hi : i = 0 ∨ i = 1) (hst : standP (wholeL (ws.take h)) (wholeL (ws.drop h)) (cpC (ws.take h)) (cpC (ws.drop h)) = ((i : Int), true)) (L : List Int) (hL : L = if i = 0 then ws.take h else ws.drop h) (a : Value) (w : World) (ha : RowIn w a ws) :
    Calls Tryz.prog 176 #[.agg #[.int .i64 m, a]] w fun e w' => ∃ sv, e = .returned (.tuple #[sv, .int .i64 (cpC L), .bool true]) ∧ Below w.heap.size w w' ∧ w'.ownsRow w.heap.size 2 1 sv m (ints (cpN L)) := by
  have HA := hid ha
  have lT : (ws.take h).length = h := by rw [List.length_take]; omega
  have lD : (ws.drop h).length = h := by rw [List.length_drop]; omega
  have CF := hid (fun a W (hW : RowIn W a ws) => formed_calls m ws (by omega) a W hW)
  rw [formB_iff.2 ⟨by omega, by omega, by omega, hnb⟩] at CF
  have CC := hid (fun a W (hW : RowIn W a ws) => copiesOf_calls m h hh h1 h20 ws hws a W hW)
  have CS := hid (fun W => standing_calls (cpK (ws.take h)) (cpK (ws.drop h)) (cpC (ws.take h)) (cpC (ws.drop h)) (padN (ws.take h)) (padN (ws.drop h)) (padN_len _ (by omega) (by omega)) (padN_len _ (by omega) (by omega)) (padN_numb (numb_take hnb h)) (padN_numb (numb_drop hnb h)) (cpC_bd (numb_take hnb h)) (cpC_bd (numb_drop hnb h)) W)
  rw [wholeB_pad, wholeB_pad, hst] at CS
  have hA := copyV_size (ws.take h) (by omega) (by omega)
  have hB := copyV_size (ws.drop h) (by omega) (by omega)
  have o1 : (copyV (ws.take h) ++ copyV (ws.drop h)).size = 44 := by rw [Array.size_append, hA, hB]
  have o2 : (copyV (ws.take h) ++ copyV (ws.drop h)).all (·.oneCell') = true := by rw [Array.all_append, copyV, copyV, nvc_one, nvc_one]; rfl
  have hsd := fun W c' h' => storeD_new W c' _ h' o1 o2
  have hld := fun W => loadD_new W _ o1
  have lN : (cpN L).length = m := by
    have : L.length = h := by rw [hL]; split <;> assumption
    unfold cpN; simp; omega
  have hV : (∀ j u, (ints (cpN L))[j]? = some u → (copyV (ws.take h) ++ copyV (ws.drop h))[i * 22 + 1 + j]? = some u) ∧ (copyV (ws.take h) ++ copyV (ws.drop h))[i * 22 + 21]? = some (.int .i64 (cpC L)) := by
    rcases hi with rfl | rfl
    · rw [if_pos rfl] at hL
      subst hL
      obtain ⟨c1, c2⟩ := copy_cells (ws.take h) (by omega) (by omega)
      refine ⟨fun j u hj => ?_, ?_⟩
      · have hjl : j < m := by rw [← lN, ← ints_len]; exact (List.getElem?_eq_some_iff.1 hj).1
        rw [show 0 * 22 + 1 + j = 1 + j by omega, Array.getElem?_append_left (by omega)]
        exact c1 j u hj
      · rw [show 0 * 22 + 21 = 21 by omega, Array.getElem?_append_left (by omega)]
        exact c2
    · rw [if_neg (by decide)] at hL
      subst hL
      obtain ⟨c1, c2⟩ := copy_cells (ws.drop h) (by omega) (by omega)
      refine ⟨fun j u hj => ?_, ?_⟩
      · rw [Array.getElem?_append_right (by omega), hA, show 1 * 22 + 1 + j - 22 = 1 + j by omega]
        exact c1 j u hj
      · rw [Array.getElem?_append_right (by omega), hA, show 1 * 22 + 21 - 22 = 21 by omega]
        exact c2
  have CS' : Hid (∀ W, Calls Tryz.prog 192 #[.agg (copyV (ws.take h) ++ copyV (ws.drop h))] W fun e w' => e = .returned (.tuple #[.int .i64 i, .bool true]) ∧ Below W.heap.size W w') := hid (fun W => CS.out W)
  generalize copyV (ws.take h) ++ copyV (ws.drop h) = V at *
  have HV := hid hV
  have LN := hid lN
  obtain ⟨p, c, rfl, hc, _⟩ := ha
  have HW : Hid (Below w.heap.size w (w.alloc (.cells #[.int .i64 m, .slice p ws.length c] 39))) := hid ((Below.refl _ _).alloc (Nat.le_refl _) _)
  have b1 : (0 : Int) ≤ (m : Int) := by omega
  have b2 : (m : Int) ≤ (20 : Int) := by omega
  obtain ⟨i0, hi0, hz0, hz1, hz2⟩ := info_parts intInfo
  have CL := hid (fun b off W (hcl : ∀ j u, (ints (cpN L))[j]? = some u → W.cell? ⟨b, off + j, none⟩ = some u) => Tryz.slices_Clone_f158 i0 _ 1 8 hi0 hz0 hz1 hz2 rfl (by decide) Tryz.sizeOf2 b off m 20 (ints (cpN L)) W (by rw [ints_len, lN, Nat.mul_one]) (by unfold maxLen; omega) (by omega) hcl (ints_one _))
  clear hst CS hA hB o1 o2 lT lD hws hnb hV lN hL hi0 hz0 hz1 hz2
  go_enter Tryz.func176, Tryz.ntmps176
  go_wp2_with (go_at_call 190; refine (CF.out _ _ (HA.out.on HW.out)).mono ?_; rintro e w1 ⟨rfl, hb1⟩; refine Hid.out ?_)
  refine hid ?_
  have k0 := hb1.cell (p := ⟨w.heap.size, 0, none⟩) (by simp)
  have k1 := hb1.cell (p := ⟨w.heap.size, 1, none⟩) (by simp)
  have HV1 : Hid (w1.heap[w.heap.size]? = some (.cells #[.int .i64 m, .slice p ws.length c] 39)) := hid ((hb1.block _ (by simp)).trans (heap_alloc_new _ _))
  have HB1 := hid (HW.out.trans (hb1.mono HW.out.size))
  have hz1 := hb1.size
  simp only [World.size_alloc] at hz1
  clear hb1
  go_wp2_with (go_at_call 191; refine (CC.out _ _ (HA.out.on HB1.out)).mono ?_; rintro e w2 ⟨rfl, hb2⟩; refine Hid.out ?_)
  refine hid ?_
  have hz2 := hb2.size
  have HV2 := hid ((hb2.block w.heap.size (by omega)).trans HV1.out)
  have HB2 := hid (HB1.out.trans (hb2.mono HB1.out.size))
  clear hb2 k0 k1
  go_wp2_with (go_at_call 192; refine (CS'.out _).mono ?_; rintro e w3 ⟨rfl, hb3⟩; refine Hid.out ?_)
  refine hid ?_
  have hz3 := hb3.size
  simp only [World.size_alloc] at hz3
  have HV3 := hid ((hb3.block w.heap.size (by simp; omega)).trans ((Below.heap_alloc w2 _ _ (by omega)).trans HV2.out))
  have HC3 : Hid (w3.heap[w2.heap.size]? = some (.cells V 239)) := hid ((hb3.block _ (by simp)).trans (heap_alloc_new _ _))
  have HB3 := hid ((HB2.out.alloc HB2.out.size (.cells V 239)).trans (hb3.mono (by simp; have := HB2.out.size; omega)))
  clear hb3
  have r0 : ∀ W : World, Below w3.heap.size w3 W → W.cell? ⟨w.heap.size, 0, none⟩ = some (.int .i64 m) := fun W hW => (var_cells ((hW.block _ (by omega)).trans HV3.out)).1
  have r1 : ∀ W : World, Below w3.heap.size w3 W → W.cell? ⟨w2.heap.size, i * 22 + 21, none⟩ = some (.int .i64 (cpC L)) := fun W hW => by
    rw [cell_of_row W _ _ _ _ _ ((hW.block _ (by omega)).trans HC3.out)]; exact HV.out.2
  have CL2 : Hid (∀ W : World, Below w3.heap.size w3 W → _) := hid (fun W hW => CL.out w2.heap.size (i * 22 + 1) W (fun j u hj => by
    rw [cell_of_row W _ _ _ _ _ ((hW.block _ (by omega)).trans HC3.out)]; exact HV.out.1 j u hj))
  rcases hi with rfl | rfl
  all_goals
    simp only [Nat.zero_mul, Nat.one_mul, Nat.zero_add, Nat.reduceAdd] at r1 CL2
    go_wp2
    go_region_held3 (fun w' => Below w3.heap.size w3 w') (first | with_reducible assumption | exact Below.drew (Below.refl _ _) | exact below_step (by assumption) (Nat.le_refl _) (by assumption)) ((go_at_call 158; refine (CL2.out _ (by assumption)).mono ?_; rintro e w5 ⟨sv, rfl, ho5, _, hb5⟩))
    rename_i hS
    have HS := hid hS
    have HO := hid ho5
    clear hS ho5 hb5
    go_wp2
    go_ret3
    exact ⟨sv, rfl, HB3.out.trans (HS.out.mono HB3.out.size), ⟨HO.out.1, HO.out.2.imp id fun ⟨g, cap, cur, a1, a2, a3⟩ => ⟨g, cap, cur, a1, Nat.le_trans HB3.out.size a2, a3⟩⟩⟩
end Go.Proofs.YtnkaabgjfdbdoaaGreatDoor

namespace Go.Proofs.YtnkaabgjfdbdoaaGreatDoor
open Go.RowKit
open Go.Lib (hid)

theorem l3Formed_calls (size : Int) (ws : List Int) (hn : ws.length ≤ 1048576) (a : Value) (w : World) (ha : RowIn w a ws) :
    Calls Tryz.prog 142 #[.agg #[.int .i64 size, a]] w fun e w' => e = .returned (.bool (formB size ws)) ∧ Below w.heap.size w w' := by
  have HA := hid ha
  obtain ⟨p, c, rfl, hc, _⟩ := ha
  have HW : Hid (Below w.heap.size w (w.alloc (.cells #[.int .i64 size, .slice p ws.length c] 39))) := hid ((Below.refl _ _).alloc (Nat.le_refl _) _)
  have CI := hid (fun W => nin_calls size 1 20 W)
  have CN := hid (fun a W (hW : RowIn W a ws) => l3Numbers_calls ws hn a W hW)
  by_cases h1 : 1 ≤ size ∧ size ≤ 20
  · rw [decide_eq_true h1] at CI
    obtain ⟨h1, h2⟩ := h1
    by_cases h3 : (ws.length : Int) = 2 * (size + 2)
    · have h3b : ((ws.length : Int) == 2 * (size + 2)) = true := by rw [beq_iff_eq]; exact h3
      have e : formB size ws = numbB ws := by simp [formB, h1, h2, h3]
      rw [e]
      clear e
      go_enter Tryz.func142, Tryz.ntmps142
      go_wp2_with (first | (go_at_call 77; refine (CI.out _).mono ?_; rintro e w1 ⟨rfl, rfl⟩) | (go_at_call 112; refine (CN.out _ _ (HA.out.on HW.out)).mono ?_; rintro e w1 ⟨rfl, rfl⟩))
      go_ret
      exact ⟨rfl, HW.out⟩
    · have h3b : ((ws.length : Int) == 2 * (size + 2)) = false := by rw [beq_eq_false_iff_ne]; exact h3
      rw [formB_no (fun h => h3 h.2.2.1)]
      go_enter Tryz.func142, Tryz.ntmps142
      go_wp2_with (go_at_call 77; refine (CI.out _).mono ?_; rintro e w1 ⟨rfl, rfl⟩)
      go_ret
      exact ⟨rfl, HW.out⟩
  · rw [decide_eq_false h1] at CI
    rw [formB_no (fun h => h1 ⟨h.1, h.2.1⟩)]
    clear h1
    go_enter Tryz.func142, Tryz.ntmps142
    go_wp2_with (go_at_call 77; refine (CI.out _).mono ?_; rintro e w1 ⟨rfl, rfl⟩)
    go_ret
    exact ⟨rfl, HW.out⟩

/-- The words of the first or the second copy. -/
def copyOf (ws : List Int) (h k : Nat) : List Int := if k = 0 then ws.take h else ws.drop h

theorem copyOf_len (ws : List Int) (h k : Nat) (hws : ws.length = 2 * h) : (copyOf ws h k).length = h := by
  unfold copyOf
  split
  · rw [List.length_take]; omega
  · rw [List.length_drop]; omega

set_option maxHeartbeats 1000000 in
theorem l3Copy_calls (m h k : Nat) (hh : h = m + 2) (h1 : 1 ≤ m) (h20 : m ≤ 20) (hk : k = 0 ∨ k = 1) (ws : List Int) (hws : ws.length = 2 * h) (a : Value) (w : World) (ha : RowIn w a ws) :
    Calls Tryz.prog 143 #[.agg #[.int .i64 m, a], .int .i64 k] w fun e w' => ∃ g o c, e = .returned (.slice (some ⟨g, o, none⟩) h c) ∧ Below w.heap.size w w' ∧ RowIn w' (.slice (some ⟨g, o, none⟩) h c) (copyOf ws h k) := by
  have HA := hid ha
  obtain ⟨p, c, rfl, hc, hp⟩ := ha
  obtain ⟨g, o, rfl, hg, hp0⟩ := hp (fun e => by rw [e] at hws; simp at hws; omega)
  clear hp hp0
  have HW : Hid (Below w.heap.size w (w.alloc (.cells #[.int .i64 m, .slice (some ⟨g, o, none⟩) ws.length c] 39))) := hid ((Below.refl _ _).alloc (Nat.le_refl _) _)
  have HT := hid (row_take HA.out h (by omega))
  have HD := hid (row_drop HA.out h (by omega))
  rw [show ws.length - h = h by omega] at HD
  have hcast : (m : Int) + 2 = (h : Int) := by omega
  have b1 : (0 : Int) ≤ (h : Int) := by omega
  have b2 : (h : Int) ≤ (c : Int) := by omega
  have b3 : (h : Int) + (h : Int) ≤ (c : Int) := by omega
  have b4 : ¬ c = h := by omega
  have b6 : (h : Int) ≤ 22 := by omega
  have b7 : h + h - h = h := by omega
  clear hh hws
  rcases hk with rfl | rfl
  · go_enter Tryz.func143, Tryz.ntmps143
    go_wp2
    go_ret
    exact ⟨g, o, c, rfl, HW.out, HT.out.on HW.out⟩
  · go_enter Tryz.func143, Tryz.ntmps143
    go_wp2
    have HB7 := hid b7
    rw [b7]
    go_ret
    exact ⟨g, o + h, c - h, rfl, HW.out, HD.out.on HW.out⟩

/-- The best copy and its count, behind so many that were looked at. -/
def bestOf (ws : List Int) (h : Nat) : Nat → Int × Int
  | 0 => (-1, 0)
  | k + 1 => if wholeL (copyOf ws h k) && decide (cpC (copyOf ws h k) > (bestOf ws h k).2) then ((k : Int), cpC (copyOf ws h k)) else bestOf ws h k

theorem whole_ge {l : List Int} (h : wholeL l = true) : 1 ≤ cpC l := by
  unfold wholeL wholeB at h
  simp at h
  exact h.1

theorem bestOf_stand (ws : List Int) (h : Nat) : (bestOf ws h 2).1 = if (standP (wholeL (ws.take h)) (wholeL (ws.drop h)) (cpC (ws.take h)) (cpC (ws.drop h))).2 then (standP (wholeL (ws.take h)) (wholeL (ws.drop h)) (cpC (ws.take h)) (cpC (ws.drop h))).1 else -1 := by
  have e0 : copyOf ws h 0 = ws.take h := rfl
  have e1 : copyOf ws h 1 = ws.drop h := rfl
  unfold bestOf bestOf bestOf standP
  rw [e0, e1]
  cases hA : wholeL (ws.take h) <;> cases hB : wholeL (ws.drop h)
  · simp
  · have h2 := whole_ge hB
    have h3 : decide (cpC (ws.drop h) > 0) = true := decide_eq_true (by omega)
    simp [h3]
  · have h1 := whole_ge hA
    have h3 : decide (cpC (ws.take h) > 0) = true := decide_eq_true (by omega)
    simp [h3]
  · have h1 := whole_ge hA
    have h2 := whole_ge hB
    have h3 : decide (cpC (ws.take h) > 0) = true := decide_eq_true (by omega)
    by_cases h4 : cpC (ws.drop h) > cpC (ws.take h)
    · simp [h3, h4]
    · simp [h3, h4]

theorem cpSum (l : List Int) (h2 : 2 ≤ l.length) : (l.drop 1).sum = cpC l + (cpN l).sum := by
  have e : l.drop 1 = cpN l ++ [cpC l] := by
    unfold cpN cpC
    have h1 : l.length - 2 < (l.drop 1).length := by rw [List.length_drop]; omega
    have : (l.drop 1).take (l.length - 2 + 1) = l.drop 1 := List.take_of_length_le (by rw [List.length_drop]; omega)
    rw [List.take_succ_eq_append_getElem h1, List.getElem_drop] at this
    have e2 : l.getD (l.length - 1) 0 = l[1 + (l.length - 2)] := by
      have : l.length - 1 = 1 + (l.length - 2) := by omega
      rw [this]
      simp [List.getD, show 1 + (l.length - 2) < l.length by omega]
    rw [e2]
    exact this.symm
  rw [e, List.sum_append]
  simp
  omega

set_option maxRecDepth 20000 in
set_option maxHeartbeats 2000000 in
theorem l3Stands_calls (m h : Nat) (hh : h = m + 2) (h1 : 1 ≤ m) (h20 : m ≤ 20) (ws : List Int) (hws : ws.length = 2 * h) (hnb : Numb ws) (a : Value) (w : World) (ha : RowIn w a ws) :
    Calls Tryz.prog 113 #[.agg #[.int .i64 m, a]] w fun e w' => e = .returned (.int .i64 (bestOf ws h 2).1) ∧ Below w.heap.size w w' := by
  have HA := hid ha
  obtain ⟨p, c, rfl, hc, _⟩ := ha
  have HW : Hid (Below w.heap.size w (w.alloc (.cells #[.int .i64 m, .slice p ws.length c] 39))) := hid ((Below.refl _ _).alloc (Nat.le_refl _) _)
  have HBX : Hid ((w.alloc (.cells #[.int .i64 m, .slice p ws.length c] 39)).heap[w.heap.size]? = some (.cells #[.int .i64 m, .slice p ws.length c] 39)) := hid (heap_alloc_new _ _)
  have CP := hid (fun k (hk : k = 0 ∨ k = 1) a W (hW : RowIn W a ws) => l3Copy_calls m h k hh h1 h20 hk ws hws a W hW)
  have CL := hid (fun k => copyOf_len ws h k hws)
  have CN : Hid (∀ k, Numb (copyOf ws h k)) := hid (fun k => by
    unfold copyOf
    split
    · exact numb_take hnb h
    · exact numb_drop hnb h)
  have hh3 : 3 ≤ h := by omega
  have hh22 : h ≤ 22 := by omega
  clear hh hws hnb
  go_enter Tryz.func113, Tryz.ntmps113
  go_wp2
  go_loopw [3, 4, 5] (fun bv mv iv wr => ∃ k : Nat, ∃ b m' : Int, k ≤ 2 ∧ iv = .int .i64 k ∧ bv = .int .i64 b ∧ mv = .int .i64 m' ∧ Hid ((b, m') = bestOf ws h k) ∧ Below w.heap.size w wr ∧ wr.heap[w.heap.size]? = some (.cells #[.int .i64 m, .slice p ws.length c] 39)) (fun _ _ iv _ => 2 - (RowKit.intOf iv).toNat)
  case atStart => exact ⟨0, -1, 0, by omega, rfl, rfl, rfl, hid rfl, HW.out, HBX.out⟩
  case round =>
    obtain ⟨k, b, m', hk, rfl, rfl, rfl, HBE, hbel, hbx⟩ := hrel
    have HBL := hid hbel
    have HBK := hid hbx
    have hxl : w.heap.size < wr.heap.size := by
      have := (Array.getElem?_eq_some_iff.1 hbx).1
      exact this
    obtain ⟨v0, v1⟩ := var_cells hbx
    by_cases hlt : k < 2
    · clear hbel hbx
      go_wp2_with (go_at_call 143; refine (CP.out k (by omega) _ _ (HA.out.on HBL.out)).mono ?_; rintro e w5 ⟨g, o, c5, rfl, hb5, hr5⟩; refine Hid.out ?_)
      refine hid ?_
      have hL := CL.out k
      have hN := CN.out k
      have hbd := cpC_bd hN
      have HBE2 : Hid (bestOf ws h (k + 1) = if wholeL (copyOf ws h k) && decide (cpC (copyOf ws h k) > m') then ((k : Int), cpC (copyOf ws h k)) else (b, m')) := hid (by rw [HBE.out]; show (if _ then _ else bestOf ws h k) = _; rw [← HBE.out])
      have HB5 := hid (HBL.out.trans (hb5.mono HBL.out.size))
      have HX5 := hid ((hb5.block w.heap.size hxl).trans HBK.out)
      generalize copyOf ws h k = L at *
      obtain ⟨_, _, e, _, hcell⟩ := hr5
      have HR5 : Hid (RowIn w5 (.slice (some ⟨g, o, none⟩) h c5) L) := hid ⟨_, _, e, by assumption, hcell⟩
      injection e with e1 e2 e3
      subst e1
      clear e2 e3
      obtain ⟨_, _, e, hg5, hc5⟩ := hcell (fun e => by rw [e] at hL; simp at hL; omega)
      injection e with e
      injection e with e1 e2
      subst e1; subst e2
      have q0 := hc5 0 (by omega)
      have q1 := hc5 (h - 1) (by omega)
      have z0 : L[0]'(by omega) = cpK L := by unfold cpK; simp [List.getD, show 0 < L.length by omega]
      have z1 : L[h - 1]'(by omega) = cpC L := by unfold cpC; simp [List.getD, hL, show h - 1 < h by omega]
      rw [z0] at q0
      rw [z1] at q1
      rw [Nat.add_zero] at q0
      have CK := hid (fun a W (hW : RowIn W a L) => l3Check_calls L (cpC L + (cpN L).sum) (cpSum L (by omega)) (by omega) (by omega) (fun x hx => by have := hN x (List.mem_of_mem_drop hx); omega) a W hW)
      clear hb5 hc5 hcell hN z0 z1 v0 v1
      have bq : (h : Int) - 1 = ((h - 1 : Nat) : Int) := by omega
      generalize hCC : cpC L = C at *
      generalize hKK : cpK L = K0 at *
      generalize hSS : (cpN L).sum = SS at *
      have HWL : Hid (wholeL L = (decide (1 ≤ C) && (K0 == 1 + (C + SS) % 999983))) := hid (by unfold wholeL wholeB; rw [hCC, hKK, hSS])
      rw [HWL.out] at HBE2
      have bq2 : (0 : Int) ≤ ((h - 1 : Nat) : Int) := by omega
      have bq3 : ((h - 1 : Nat) : Int) < (h : Int) := by omega
      have bq4 : (0 : Int) < (h : Int) := by omega
      clear hCC hKK hSS hL
      by_cases c1 : 1 ≤ C
      · have d1 : decide (C ≥ 1) = true := decide_eq_true c1
        rw [show decide (1 ≤ C) = true from d1] at HBE2
        by_cases c2 : (K0 == 1 + (C + SS) % 999983) = true
        · rw [c2] at HBE2
          by_cases c3 : C > m'
          · have d3 : decide (C > m') = true := decide_eq_true c3
            rw [d3] at HBE2
            go_wp2
            go_quiet ((go_at_call 114; exact Calls.quiet_of_same (CK.out _ _ (HR5.out.on (drewN_below (Below.refl _ _) _)))))
            go_wp2
            go_roundw
            case rel => exact ⟨k + 1, (k : Int), C, by omega, by go_num, rfl, rfl, hid (by rw [HBE2.out]; rfl), drewN_below HB5.out _, HX5.out⟩
            case measure => simp [RowKit.intOf]; omega
          · have d3 : decide (C > m') = false := decide_eq_false c3
            rw [d3] at HBE2
            go_wp2
            go_quiet ((go_at_call 114; exact Calls.quiet_of_same (CK.out _ _ (HR5.out.on (drewN_below (Below.refl _ _) _)))))
            go_wp2
            go_roundw
            case rel => exact ⟨k + 1, b, m', by omega, by go_num, rfl, rfl, hid (by rw [HBE2.out]; rfl), drewN_below HB5.out _, HX5.out⟩
            case measure => simp [RowKit.intOf]; omega
        · have c2' : (K0 == 1 + (C + SS) % 999983) = false := by simpa using c2
          rw [c2'] at HBE2
          clear c2
          go_wp2
          go_quiet ((go_at_call 114; exact Calls.quiet_of_same (CK.out _ _ (HR5.out.on (drewN_below (Below.refl _ _) _)))))
          go_wp2
          go_roundw
          case rel => exact ⟨k + 1, b, m', by omega, by go_num, rfl, rfl, hid (by rw [HBE2.out]; rfl), drewN_below HB5.out _, HX5.out⟩
          case measure => simp [RowKit.intOf]; omega
      · have d1 : decide (C ≥ 1) = false := decide_eq_false c1
        rw [show decide (1 ≤ C) = false from d1] at HBE2
        go_wp2
        go_quiet (fail)
        go_wp2
        go_roundw
        case rel => exact ⟨k + 1, b, m', by omega, by go_num, rfl, rfl, hid (by rw [HBE2.out]; rfl), drewN_below HB5.out _, HX5.out⟩
        case measure => simp [RowKit.intOf]; omega
    · have hke : k = 2 := by omega
      subst hke
      clear hbel hbx
      go_wp2
      go_ret
      exact ⟨by rw [← HBE.out]; rfl, HBL.out⟩

theorem step_append_ints {w : World} {ops : Array Oper} {o : Oper} {a : Act} {K : Act → World → Prop} {Q : Exit → Act → World → Prop} {E : Prop} (hgd : o.guard = none) (s x : Operand)
    (ho : o.op = .call { callee := .builtin .append, args := #[s, x], argTypes := #[22, 22] }) (base : Nat)
    (v : Value) (n : Nat) (xs : List Value) (hs : a.eval s = v) (hown : w.ownsRow base 2 1 v n xs)
    (g o' c : Nat) (ys : List Int) (hy : 0 < ys.length) (hx : a.eval x = .slice (some ⟨g, o', none⟩) ys.length c) (hsx : RowIn w (.slice (some ⟨g, o', none⟩) ys.length c) ys) (hn : n + ys.length ≤ 1000000000) (hbase : base ≤ w.heap.size)
    (h : ∀ v' w', w'.ownsRow base 2 1 v' (n + ys.length) (xs ++ ints ys) → w.grownBy w' v.ownBlock → K (a.put o.dst v') w') :
    if Region.wanted o (yielded ops a.tmps) = true then Oper.wp Tryz.prog o a w K Q else E := by
  rw [if_pos (by simp [Region.wanted, hgd])]
  obtain ⟨i0, hi0, hz0, hz1, hz2⟩ := info_parts intInfo
  obtain ⟨p, c', e, hc, hp⟩ := hsx
  injection e with e1 e2 e3
  subst e1
  obtain ⟨g', o'', e, hg, hcell⟩ := hp (fun e => by rw [e] at hy; cases hy)
  injection e with e
  injection e with e1 e2
  subst e1; subst e2
  obtain ⟨v', w', hr, h2, h3, _⟩ := append_where_m (P := Tryz.prog) w base 22 o.type 2 i0 _ 1 8 Tryz.underlying22 hi0 hz0 hz1 hz2 rfl (by decide) v n xs hown ⟨g, o', none⟩ ys.length c (ints ys) (by rw [ints_len, Nat.mul_one]) (fun j u hj => by
    have hjl : j < ys.length := by rw [← ints_len]; exact (List.getElem?_eq_some_iff.1 hj).1
    rw [Addr.add_mid, hcell j hjl]
    rw [ints_at ys j hjl] at hj
    exact hj) (ints_one ys) (by unfold maxLen; omega) (by omega) hbase
  unfold Oper.wp execOp
  simp only [ho, resolve, invoke, builtin, Sem.run_bind, Sem.run_pure, Result.andThen_ok, List.map_toArray, List.map_cons, List.map_nil, hs, hx, hr]
  exact h v' w' h2 h3

/-- What NvRead answers. -/
def readOut (size : Int) (ws : List Int) : List Int × Int × Bool :=
  if formB size ws then
    (if (bestOf ws (size.toNat + 2) 2).1 < 0 then ([], 0, false) else (cpN (copyOf ws (size.toNat + 2) (bestOf ws (size.toNat + 2) 2).1.toNat), cpC (copyOf ws (size.toNat + 2) (bestOf ws (size.toNat + 2) 2).1.toNat), true))
  else ([], 0, false)

def ReadPost (size : Int) (ws : List Int) (w : World) (e : Ending) (w' : World) : Prop :=
  ∃ sv, e = .returned (.tuple #[sv, .int .i64 (readOut size ws).2.1, .bool (readOut size ws).2.2]) ∧ Below w.heap.size w w' ∧ w'.ownsRow w.heap.size 2 1 sv (readOut size ws).1.length (ints (readOut size ws).1)

theorem best_few (ws : List Int) (h : Nat) : (bestOf ws h 2).1 = -1 ∨ (bestOf ws h 2).1 = 0 ∨ (bestOf ws h 2).1 = 1 := by
  have h1 : (bestOf ws h 1).1 = -1 ∨ (bestOf ws h 1).1 = 0 := by
    show (if _ then _ else bestOf ws h 0).1 = _ ∨ (if _ then _ else bestOf ws h 0).1 = _
    split
    · exact Or.inr rfl
    · exact Or.inl rfl
  show (if _ then _ else bestOf ws h 1).1 = _ ∨ (if _ then _ else bestOf ws h 1).1 = _ ∨ (if _ then _ else bestOf ws h 1).1 = _
  split
  · exact Or.inr (Or.inr rfl)
  · rcases h1 with h1 | h1
    · exact Or.inl h1
    · exact Or.inr (Or.inl h1)

theorem read_impl (size : Int) (ws : List Int) (hn : ws.length ≤ 1048576) (a : Value) (w : World) (ha : RowIn w a ws) : Calls Tryz.prog 176 #[.agg #[.int .i64 size, a]] w (ReadPost size ws w) := by
  unfold ReadPost readOut
  by_cases hf : formB size ws = true
  · rw [if_pos hf]
    obtain ⟨h1, h2, h3, h4⟩ := formB_iff.1 hf
    obtain ⟨m, hm⟩ : ∃ m : Nat, size = (m : Int) := ⟨size.toNat, by omega⟩
    subst hm
    have ht : (m : Int).toNat = m := by omega
    rw [ht]
    have hb := bestOf_stand ws (m + 2)
    by_cases hs : (standP (wholeL (ws.take (m + 2))) (wholeL (ws.drop (m + 2))) (cpC (ws.take (m + 2))) (cpC (ws.drop (m + 2)))).2 = true
    · rw [if_pos hs] at hb
      have hi : ∃ i : Nat, (i = 0 ∨ i = 1) ∧ standP (wholeL (ws.take (m + 2))) (wholeL (ws.drop (m + 2))) (cpC (ws.take (m + 2))) (cpC (ws.drop (m + 2))) = ((i : Int), true) := by
        have hq0 : 0 ≤ (standP (wholeL (ws.take (m + 2))) (wholeL (ws.drop (m + 2))) (cpC (ws.take (m + 2))) (cpC (ws.drop (m + 2)))).1 := by unfold standP; split <;> (show (0 : Int) ≤ _; simp)
        generalize standP (wholeL (ws.take (m + 2))) (wholeL (ws.drop (m + 2))) (cpC (ws.take (m + 2))) (cpC (ws.drop (m + 2))) = q at *
        have hfew := best_few ws (m + 2)
        obtain ⟨q1, q2⟩ := q
        simp only at hs hb hq0
        subst hs
        rcases hfew with h | h | h
        · rw [h] at hb
          have hst := hb
          exfalso
          have h0 : 0 ≤ q1 := hq0
          omega
        · exact ⟨0, Or.inl rfl, by rw [← hb, h]; rfl⟩
        · exact ⟨1, Or.inr rfl, by rw [← hb, h]; rfl⟩
      obtain ⟨i, hi, hsi⟩ := hi
      rw [hsi] at hb
      rw [hb, if_neg (by show ¬ ((i : Int) < 0); omega)]
      have hti : (i : Int).toNat = i := by omega
      have hlen : (cpN (copyOf ws (m + 2) i)).length = m := by
        have := copyOf_len ws (m + 2) i (by omega)
        unfold cpN; simp; omega
      refine (nvRead_yes m (m + 2) rfl (by omega) (by omega) ws (by omega) h4 i hi hsi (copyOf ws (m + 2) i) rfl a w ha).mono fun e w' ⟨sv, he, hb, ho⟩ => ⟨sv, ?_, hb, ?_⟩
      · show e = .returned (.tuple #[sv, .int .i64 (cpC (copyOf ws (m + 2) (i : Int).toNat)), .bool true])
        rw [hti]; exact he
      · show w'.ownsRow w.heap.size 2 1 sv (cpN (copyOf ws (m + 2) (i : Int).toNat)).length (ints (cpN (copyOf ws (m + 2) (i : Int).toNat)))
        rw [hti, hlen]; exact ho
    · rw [if_neg hs] at hb
      rw [hb, if_pos (by decide)]
      exact (nvRead_none m (m + 2) rfl (by omega) (by omega) ws (by omega) h4 (by simpa using hs) a w ha).mono fun e w' ⟨he, hb⟩ => ⟨_, he, hb, World.ownsRow_nil _ _ _ _⟩
  · rw [if_neg hf]
    exact (nvRead_ill size ws hn (by simpa using hf) a w ha).mono fun e w' ⟨he, hb⟩ => ⟨_, he, hb, World.ownsRow_nil _ _ _ _⟩
end Go.Proofs.YtnkaabgjfdbdoaaGreatDoor

namespace Go.Proofs.YtnkaabgjfdbdoaaGreatDoor
open Go.RowKit
open Go.Lib (hid)

theorem row_mid {w : World} {g o c : Nat} {L : List Int} {h : Nat} (hL : L.length = h) (hr : RowIn w (.slice (some ⟨g, o, none⟩) h c) L) (h3 : 3 ≤ h) : RowIn w (.slice (some ⟨g, o + 1, none⟩) (cpN L).length (c - 1)) (cpN L) := by
  subst hL
  have h1 := row_drop hr 1 (by omega)
  have e : (cpN L).length = L.length - 2 := by unfold cpN; simp; omega
  rw [e]
  have h2 : RowIn w (.slice (some ⟨g, o + 1, none⟩) (L.drop 1).length (c - 1)) (L.drop 1) := by rw [List.length_drop]; exact h1
  exact row_take h2 (L.length - 2) (by rw [List.length_drop]; omega)

theorem own_empty (w : World) (base : Nat) (hb : base ≤ w.heap.size) : (w.alloc (.cells #[] 2)).ownsRow base 2 1 (.slice (some ⟨w.heap.size, 0, none⟩) 0 0) 0 [] := World.ownsRow_made w #[] 0 hb (Nat.zero_le _) rfl

theorem specRead_ill (size : Int) (ws : List Int) (hn : ws.length ≤ 1048576) (hf : formB size ws = false) (a : Value) (w : World) (ha : RowIn w a ws) :
    Calls Tryz.prog 86 #[.agg #[.int .i64 size, a]] w fun e w' => ∃ sv, e = .returned (.tuple #[sv, .int .i64 0, .bool false]) ∧ Below w.heap.size w w' ∧ w'.ownsRow w.heap.size 2 1 sv 0 [] := by
  have HA := hid ha
  have CF := hid (fun a W (hW : RowIn W a ws) => l3Formed_calls size ws hn a W hW)
  rw [hf] at CF
  obtain ⟨p, c, rfl, hc, _⟩ := ha
  have HW : Hid (Below w.heap.size w (w.alloc (.cells #[.int .i64 size, .slice p ws.length c] 39))) := hid ((Below.refl _ _).alloc (Nat.le_refl _) _)
  go_enter Tryz.func86, Tryz.ntmps86
  go_wp2_with (go_at_call 142; refine (CF.out _ _ (HA.out.on HW.out)).mono ?_; rintro e w1 ⟨rfl, hb1⟩; have HB1 := hid (HW.out.trans (hb1.mono HW.out.size)); clear hb1)
  go_ret3
  exact ⟨_, rfl, HB1.out.alloc HB1.out.size _, own_empty w1 _ HB1.out.size⟩

set_option maxRecDepth 20000 in
set_option maxHeartbeats 1000000 in
theorem specRead_none (m h : Nat) (hh : h = m + 2) (h1 : 1 ≤ m) (h20 : m ≤ 20) (ws : List Int) (hws : ws.length = 2 * h) (hnb : Numb ws) (hst : (bestOf ws h 2).1 < 0) (a : Value) (w : World) (ha : RowIn w a ws) :
    Calls Tryz.prog 86 #[.agg #[.int .i64 m, a]] w fun e w' => ∃ sv, e = .returned (.tuple #[sv, .int .i64 0, .bool false]) ∧ Below w.heap.size w w' ∧ w'.ownsRow w.heap.size 2 1 sv 0 [] := by
  have HA := hid ha
  have CF := hid (fun a W (hW : RowIn W a ws) => l3Formed_calls m ws (by omega) a W hW)
  rw [formB_iff.2 ⟨by omega, by omega, by omega, hnb⟩] at CF
  have CS := hid (fun a W (hW : RowIn W a ws) => l3Stands_calls m h hh h1 h20 ws hws hnb a W hW)
  generalize (bestOf ws h 2).1 = b at *
  obtain ⟨p, c, rfl, hc, _⟩ := ha
  have HW : Hid (Below w.heap.size w (w.alloc (.cells #[.int .i64 m, .slice p ws.length c] 39))) := hid ((Below.refl _ _).alloc (Nat.le_refl _) _)
  clear hh hws hnb
  go_enter Tryz.func86, Tryz.ntmps86
  go_wp2_with (go_at_call 142; refine (CF.out _ _ (HA.out.on HW.out)).mono ?_; rintro e w1 ⟨rfl, hb1⟩; refine Hid.out ?_)
  refine hid ?_
  have k0 := hb1.cell (p := ⟨w.heap.size, 0, none⟩) (by simp)
  have k1 := hb1.cell (p := ⟨w.heap.size, 1, none⟩) (by simp)
  have HB1 := hid (HW.out.trans (hb1.mono HW.out.size))
  clear hb1
  go_wp2_with (go_at_call 113; refine (CS.out _ _ (HA.out.on HB1.out)).mono ?_; rintro e w2 ⟨rfl, hb2⟩; have HB2 := hid (HB1.out.trans (hb2.mono HB1.out.size)); clear hb2)
  go_ret3
  exact ⟨_, rfl, HB2.out.alloc HB2.out.size _, own_empty w2 _ HB2.out.size⟩

set_option maxRecDepth 20000 in
set_option maxHeartbeats 2000000 in
theorem specRead_yes (m h : Nat) (hh : h = m + 2) (h1 : 1 ≤ m) (h20 : m ≤ 20) (ws : List Int) (hws : ws.length = 2 * h) (hnb : Numb ws) (i : Nat) (hi : i = 0 ∨ i = 1) (hst : (bestOf ws h 2).1 = i) (a : Value) (w : World) (ha : RowIn w a ws) :
    Calls Tryz.prog 86 #[.agg #[.int .i64 m, a]] w fun e w' => ∃ sv, e = .returned (.tuple #[sv, .int .i64 (cpC (copyOf ws h i)), .bool true]) ∧ Below w.heap.size w w' ∧ w'.ownsRow w.heap.size 2 1 sv (cpN (copyOf ws h i)).length (ints (cpN (copyOf ws h i))) := by
  have HA := hid ha
  have CF := hid (fun a W (hW : RowIn W a ws) => l3Formed_calls m ws (by omega) a W hW)
  rw [formB_iff.2 ⟨by omega, by omega, by omega, hnb⟩] at CF
  have CS := hid (fun a W (hW : RowIn W a ws) => l3Stands_calls m h hh h1 h20 ws hws hnb a W hW)
  rw [hst] at CS
  have CP := hid (fun a W (hW : RowIn W a ws) => l3Copy_calls m h i hh h1 h20 hi ws hws a W hW)
  have hL := copyOf_len ws h i hws
  have h3 : 3 ≤ h := by omega
  have h22 : h ≤ 22 := by omega
  have hml : (cpN (copyOf ws h i)).length = h - 2 := by unfold cpN; simp; omega
  obtain ⟨p, c, rfl, hc, _⟩ := ha
  have HW : Hid (Below w.heap.size w (w.alloc (.cells #[.int .i64 m, .slice p ws.length c] 39))) := hid ((Below.refl _ _).alloc (Nat.le_refl _) _)
  clear hh hws hnb hst
  generalize copyOf ws h i = L at *
  go_enter Tryz.func86, Tryz.ntmps86
  go_wp2_with (go_at_call 142; refine (CF.out _ _ (HA.out.on HW.out)).mono ?_; rintro e w1 ⟨rfl, hb1⟩; refine Hid.out ?_)
  refine hid ?_
  have HX1 : Hid (w1.heap[w.heap.size]? = some (.cells #[.int .i64 m, .slice p ws.length c] 39)) := hid ((hb1.block _ (by simp)).trans (heap_alloc_new _ _))
  have HB1 := hid (HW.out.trans (hb1.mono HW.out.size))
  have hz1 := hb1.size
  simp only [World.size_alloc] at hz1
  obtain ⟨k0, k1⟩ := var_cells HX1.out
  clear hb1
  go_wp2_with (go_at_call 113; refine (CS.out _ _ (HA.out.on HB1.out)).mono ?_; rintro e w2 ⟨rfl, hb2⟩; refine Hid.out ?_)
  refine hid ?_
  have HX2 := hid ((hb2.block w.heap.size (by omega)).trans HX1.out)
  have HB2 := hid (HB1.out.trans (hb2.mono HB1.out.size))
  clear hb2 k0 k1
  obtain ⟨k0, k1⟩ := var_cells HX2.out
  go_wp2_with (go_at_call 143; refine (CP.out _ _ (HA.out.on HB2.out)).mono ?_; rintro e w3 ⟨g, o, c5, rfl, hb3, hr3⟩; refine Hid.out ?_)
  refine hid ?_
  have HB3 := hid (HB2.out.trans (hb3.mono HB2.out.size))
  have hM := row_mid hL hr3 h3
  obtain ⟨_, _, e, hc5, hp5⟩ := hr3
  injection e with e1 e2 e3
  subst e1; subst e3
  obtain ⟨_, _, e, hg5, hc5⟩ := hp5 (fun e => by rw [e] at hL; simp at hL; omega)
  injection e with e
  injection e with e1 e2
  subst e1; subst e2
  have q1 := hc5 (h - 1) (by omega)
  have z1 : L[h - 1]'(by omega) = cpC L := by unfold cpC; simp [List.getD, hL, show h - 1 < h by omega]
  rw [z1] at q1
  have r1 : ∀ W : World, Below w3.heap.size w3 W → W.cell? ⟨g, o + (h - 1), none⟩ = some (.int .i64 (cpC L)) := fun W hW => (hW.cell (p := ⟨g, o + (h - 1), none⟩) hg5).trans q1
  have HM := hid (fun W (hW : Below w3.heap.size w3 W) => hM.on hW)
  rw [hml] at HM
  have HML := hid hml
  have bq : (h : Int) - 1 = ((h - 1 : Nat) : Int) := by omega
  have bw : IntKind.i64.wrap ((h : Int) - 1) = ((h - 1 : Nat) : Int) := by rw [IntKind.wrap_i64]; omega
  have bw2 : IntKind.i64.wrap ((h - 1 : Nat) : Int) = ((h - 1 : Nat) : Int) := by rw [IntKind.wrap_i64]; omega
  have b1 : (1 : Int) ≤ ((h - 1 : Nat) : Int) := by omega
  have b2 : ((h - 1 : Nat) : Int) ≤ (c5 : Int) := by omega
  have b3 : (0 : Int) ≤ ((h - 1 : Nat) : Int) := by omega
  have b4 : ((h - 1 : Nat) : Int) < (h : Int) := by omega
  have b5 : ¬ c5 = 1 := by omega
  have b6 : h - 1 - 1 = h - 2 := by omega
  have b7 : 0 < (cpN L).length := by omega
  have b8 : 0 + (cpN L).length ≤ 1000000000 := by omega
  have HLN := hid (show h - 2 = (cpN L).length from hml.symm)
  clear hc5 q1 z1 hM hp5 hb3 k0 k1 e2 hL hml
  go_wp2
  go_region_held3 (fun w' => Below w3.heap.size w3 w') (first | with_reducible assumption | exact Below.drew (Below.refl _ _) | exact Below.alloc (by with_reducible assumption) (by simp) _ | exact Below.alloc (Below.drew (Below.refl _ _)) (by simp) _ | exact Below.grown (by with_reducible assumption) hg6 (by simp) (fun k hk => by cases hk; exact Nat.le_refl _)) ((refine step_append_ints rfl (.tmp 19) (.tmp 24) (by rfl) w3.heap.size _ 0 [] (by rfl) (own_empty w3.drew _ (Nat.le_refl _)) g (o + 1) (c5 - 1) (cpN L) b7 (by rw [← HLN.out]; simp [Act.eval]) (by rw [← HLN.out]; exact HM.out _ (by with_reducible assumption)) b8 (by simp) ?_; intro v6 w6 ho6 hg6))
  rename_i hS
  have HS := hid hS
  rw [Nat.zero_add, List.nil_append] at ho6
  have HO := hid ho6
  clear hS hg6 ho6
  go_wp2
  go_ret3
  exact ⟨v6, rfl, HB3.out.trans (HS.out.mono HB3.out.size), own_raise HO.out HB3.out.size⟩

theorem read_spec (size : Int) (ws : List Int) (hn : ws.length ≤ 1048576) (a : Value) (w : World) (ha : RowIn w a ws) : Calls Tryz.prog 86 #[.agg #[.int .i64 size, a]] w (ReadPost size ws w) := by
  unfold ReadPost readOut
  by_cases hf : formB size ws = true
  · rw [if_pos hf]
    obtain ⟨h1, h2, h3, h4⟩ := formB_iff.1 hf
    obtain ⟨m, hm⟩ : ∃ m : Nat, size = (m : Int) := ⟨size.toNat, by omega⟩
    subst hm
    have ht : (m : Int).toNat = m := by omega
    rw [ht]
    rcases best_few ws (m + 2) with hb | hb
    · rw [hb, if_pos (by decide)]
      exact (specRead_none m (m + 2) rfl (by omega) (by omega) ws (by omega) h4 (by rw [hb]; decide) a w ha).mono fun e w' h => h
    · have hi : ∃ i : Nat, (i = 0 ∨ i = 1) ∧ (bestOf ws (m + 2) 2).1 = (i : Int) := by
        rcases hb with hb | hb
        · exact ⟨0, Or.inl rfl, hb⟩
        · exact ⟨1, Or.inr rfl, hb⟩
      obtain ⟨i, hi, hb⟩ := hi
      rw [hb, if_neg (by omega), show (i : Int).toNat = i by omega]
      exact specRead_yes m (m + 2) rfl (by omega) (by omega) ws (by omega) h4 i hi hb a w ha
  · rw [if_neg hf]
    exact (specRead_ill size ws hn (by simpa using hf) a w ha).mono fun e w' h => h
end Go.Proofs.YtnkaabgjfdbdoaaGreatDoor
