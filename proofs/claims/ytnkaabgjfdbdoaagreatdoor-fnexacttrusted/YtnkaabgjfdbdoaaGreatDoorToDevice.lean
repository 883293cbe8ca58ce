/- A copy of a Device; what toRoot and toVault do comes in. -/
import Derived.Test.YtnkaabgjfdbdoaaGreatDoorPackRR
import Derived.Test.YtnkaabgjfdbdoaaGreatDoorRowEvent
import Derived.Test.YtnkaabgjfdbdoaaGreatDoorRowSeal
import Derived.Test.YtnkaabgjfdbdoaaGreatDoorPackSt
import Derived.Test.YtnkaabgjfdbdoaaGreatDoorPackTab
import Derived.Test.YtnkaabgjfdbdoaaGreatDoorPackKt
namespace Go.Proofs.YtnkaabgjfdbdoaaGreatDoor
open Go.RowKit
open Go.Lib (hid)

set_option maxRecDepth 20000 in
set_option maxHeartbeats 4000000 in
theorem to_device (name key : ByteArray) (sz : Int) (l : List Int) (p1 : Option Addr) (n1 c1 : Nat) (up : Bool) (ps : List (List UInt8)) (p2 : Option Addr) (n2 c2 : Nat) (ss : List SealD) (p3 : Option Addr) (n3 c3 : Nat) (st y0 y1 : Int) (y2 y3 : ByteArray) (ims : List ImageD) (n4 : ims.length ≤ 1048576) (p4 : Option Addr) (c4 : Nat) (es : List EventD) (n5 : es.length ≤ 1048576) (p5 : Option Addr) (c5 : Nat) (w : World) (h4 : FArg encImage 2 w (.slice p4 ims.length c4) ims) (h5 : FArg encEvent 2 w (.slice p5 es.length c5) es)
    (CR : ∀ W, Below w.heap.size w W → Calls Tryz.prog 37 #[.agg #[.string key, .int .i64 sz, .slice p1 n1 c1, .bool up, .slice p2 n2 c2]] W fun e w' => ∃ b1 b2, e = .returned (.agg #[.string key, .int .i64 sz, b1, .bool up, b2]) ∧ Below W.heap.size W w' ∧ w'.ownsRow W.heap.size 2 1 b1 l.length (ints l) ∧ w'.ownsRow W.heap.size 9 1 b2 ps.length (strs ps))
    (CV : ∀ W, Below w.heap.size w W → Calls Tryz.prog 38 #[.agg #[.slice p3 n3 c3, .int .i64 st, .int .i64 y0, .int .i64 y1, .string y2, .string y3]] W fun e w' => ∃ b3, e = .returned (.agg #[b3, .int .i64 st, .int .i64 y0, .int .i64 y1, .string y2, .string y3]) ∧ Below W.heap.size W w' ∧ w'.ownsRow W.heap.size 43 4 b3 ss.length (flat encSeal ss)) :
    Calls Tryz.prog 10 #[.agg #[.string name, .string key, .int .i64 sz, .slice p1 n1 c1, .bool up, .slice p2 n2 c2, .slice p3 n3 c3, .int .i64 st, .int .i64 y0, .int .i64 y1, .string y2, .string y3, .slice p4 ims.length c4, .slice p5 es.length c5]] w fun e w' => ∃ b1 b2 b3 b4 b5, e = .returned (.agg #[.string name, .string key, .int .i64 sz, b1, .bool up, b2, b3, .int .i64 st, .int .i64 y0, .int .i64 y1, .string y2, .string y3, b4, b5]) ∧ Below w.heap.size w w' ∧ RowIn w' b1 l ∧ TextsAt w' b2 ps ∧ FRow encSeal 4 w' b3 ss ∧ FRow encImage 2 w' b4 ims ∧ FRow encEvent 2 w' b5 es := by
  have H4 := hid h4
  have H5 := hid h5
  have CR := hid CR
  have CV := hid CV
  clear h4 h5
  obtain ⟨W0, hW0⟩ : ∃ W0, W0 = ((w.alloc (.cells #[.string name, .string key, .int .i64 sz, .slice p1 n1 c1, .bool up, .slice p2 n2 c2, .slice p3 n3 c3, .int .i64 st, .int .i64 y0, .int .i64 y1, .string y2, .string y3, .slice p4 ims.length c4, .slice p5 es.length c5] 36)).alloc (.cells #[.string ⟨#[]⟩, .string ⟨#[]⟩, .int .i64 0, .slice none 0 0, .bool false, .slice none 0 0, .slice none 0 0, .int .i64 0, .int .i64 0, .int .i64 0, .string ⟨#[]⟩, .string ⟨#[]⟩, .slice none 0 0, .slice none 0 0] 49)).alloc (.cells #[.string name, .string ⟨#[]⟩, .int .i64 0, .slice none 0 0, .bool false, .slice none 0 0, .slice none 0 0, .int .i64 0, .int .i64 0, .int .i64 0, .string ⟨#[]⟩, .string ⟨#[]⟩, .slice none 0 0, .slice none 0 0] 49) := ⟨_, rfl⟩
  have K0 : Hid (Below w.heap.size w W0) := hid (by rw [hW0]; exact (((Below.refl _ _).alloc (Nat.le_refl _) _).alloc (by simp) _).alloc (by simp; omega) _)
  have V0 : Hid (W0.heap[w.heap.size]? = some (.cells #[.string name, .string key, .int .i64 sz, .slice p1 n1 c1, .bool up, .slice p2 n2 c2, .slice p3 n3 c3, .int .i64 st, .int .i64 y0, .int .i64 y1, .string y2, .string y3, .slice p4 ims.length c4, .slice p5 es.length c5] 36)) := hid (by rw [hW0]; exact st_first _ _ _)
  have R0 : Hid (W0.heap[w.heap.size + 1]? = some (.cells #[.string ⟨#[]⟩, .string ⟨#[]⟩, .int .i64 0, .slice none 0 0, .bool false, .slice none 0 0, .slice none 0 0, .int .i64 0, .int .i64 0, .int .i64 0, .string ⟨#[]⟩, .string ⟨#[]⟩, .slice none 0 0, .slice none 0 0] 49)) := hid (by rw [hW0]; exact st_mid _ _ _)
  have O0 : Hid (W0.heap[w.heap.size + 1 + 1]? = some (.cells #[.string name, .string ⟨#[]⟩, .int .i64 0, .slice none 0 0, .bool false, .slice none 0 0, .slice none 0 0, .int .i64 0, .int .i64 0, .int .i64 0, .string ⟨#[]⟩, .string ⟨#[]⟩, .slice none 0 0, .slice none 0 0] 49)) := hid (by rw [hW0]; exact st_last _ _ _)
  have hz0 : w.heap.size + 1 + 1 < W0.heap.size := by rw [hW0]; simp
  have HW0 := hid hW0
  clear hW0
  go_enter Tryz.func10, Tryz.ntmps10
  go_wp2_with (go_at_call 37; rw [← HW0.out]; refine (CR.out _ K0.out).mono ?_; rintro e w1 ⟨b1, b2, rfl, hb, ho1, ho2⟩; refine Hid.out ?_)
  refine hid ?_
  have K1 := hid (st_below K0.out (Nat.le_refl _) hb)
  have V1 := hid ((hb.block _ (by omega)).trans V0.out)
  have R1 := hid ((hb.block _ (by omega)).trans R0.out)
  have O1 := hid ((hb.block _ (by omega)).trans O0.out)
  have hz1 : w.heap.size + 1 + 1 < w1.heap.size := Nat.lt_of_lt_of_le hz0 hb.size
  obtain ⟨q1, d1, rfl, _, _⟩ := row_in_own ho1
  have G1_1 := hid (st_lower ho1 (show w.heap.size ≤ W0.heap.size by omega))
  have L1 := hid ho1.lt
  have ne1a : (.slice q1 l.length d1 : Value).ownBlock ≠ some (w.heap.size + 1 + 1) := fun e => by have := (L1.out _ e).1; omega
  have ne1b : (.slice q1 l.length d1 : Value).ownBlock ≠ some (w.heap.size + 1) := fun e => by have := (L1.out _ e).1; omega
  clear ho1
  obtain ⟨q2, d2, rfl, _⟩ := texts_of ho2
  have G2_1 := hid (st_lower ho2 (show w.heap.size ≤ W0.heap.size by omega))
  have L2 := hid ho2.lt
  have ne2a : (.slice q2 ps.length d2 : Value).ownBlock ≠ some (w.heap.size + 1 + 1) := fun e => by have := (L2.out _ e).1; omega
  have ne2b : (.slice q2 ps.length d2 : Value).ownBlock ≠ some (w.heap.size + 1) := fun e => by have := (L2.out _ e).1; omega
  clear ho2
  clear hb
  obtain ⟨W2, hW2⟩ : ∃ W, W = (((((w1.setCell ⟨w.heap.size + 1 + 1, 1, none⟩ (.string key)).setCell ⟨w.heap.size + 1 + 1, 2, none⟩ (.int .i64 sz)).setCell ⟨w.heap.size + 1 + 1, 3, none⟩ (.slice q1 l.length d1)).setCell ⟨w.heap.size + 1 + 1, 4, none⟩ (.bool up)).setCell ⟨w.heap.size + 1 + 1, 5, none⟩ (.slice q2 ps.length d2)) := ⟨_, rfl⟩
  have K2 : Hid (Below w.heap.size w W2) := hid (by rw [hW2]; exact (((((K1.out.setCell (p := ⟨w.heap.size + 1 + 1, 1, none⟩) (by show w.heap.size ≤ w.heap.size + 1 + 1; omega) _).setCell (p := ⟨w.heap.size + 1 + 1, 2, none⟩) (by show w.heap.size ≤ w.heap.size + 1 + 1; omega) _).setCell (p := ⟨w.heap.size + 1 + 1, 3, none⟩) (by show w.heap.size ≤ w.heap.size + 1 + 1; omega) _).setCell (p := ⟨w.heap.size + 1 + 1, 4, none⟩) (by show w.heap.size ≤ w.heap.size + 1 + 1; omega) _).setCell (p := ⟨w.heap.size + 1 + 1, 5, none⟩) (by show w.heap.size ≤ w.heap.size + 1 + 1; omega) _))
  have KO : Hid (Below (w.heap.size + 1 + 1) w1 W2) := hid (by rw [hW2]; exact ((((((Below.refl _ _).setCell (p := ⟨w.heap.size + 1 + 1, 1, none⟩) (by show w.heap.size + 1 + 1 ≤ w.heap.size + 1 + 1; omega) _).setCell (p := ⟨w.heap.size + 1 + 1, 2, none⟩) (by show w.heap.size + 1 + 1 ≤ w.heap.size + 1 + 1; omega) _).setCell (p := ⟨w.heap.size + 1 + 1, 3, none⟩) (by show w.heap.size + 1 + 1 ≤ w.heap.size + 1 + 1; omega) _).setCell (p := ⟨w.heap.size + 1 + 1, 4, none⟩) (by show w.heap.size + 1 + 1 ≤ w.heap.size + 1 + 1; omega) _).setCell (p := ⟨w.heap.size + 1 + 1, 5, none⟩) (by show w.heap.size + 1 + 1 ≤ w.heap.size + 1 + 1; omega) _))
  have V2 := hid ((KO.out.block _ (by omega)).trans V1.out)
  have R2 := hid ((KO.out.block _ (by omega)).trans R1.out)
  have O2 : Hid (W2.heap[w.heap.size + 1 + 1]? = some (.cells #[.string name, .string key, .int .i64 sz, .slice q1 l.length d1, .bool up, .slice q2 ps.length d2, .slice none 0 0, .int .i64 0, .int .i64 0, .int .i64 0, .string ⟨#[]⟩, .string ⟨#[]⟩, .slice none 0 0, .slice none 0 0] 49)) := hid (by rw [hW2]; exact (heap_setCell_same _ _ 5 _ _ _ (heap_setCell_same _ _ 4 _ _ _ (heap_setCell_same _ _ 3 _ _ _ (heap_setCell_same _ _ 2 _ _ _ (heap_setCell_same _ _ 1 _ _ _ O1.out))))))
  have G1_2 : Hid (W2.ownsRow w.heap.size 2 1 (.slice q1 l.length d1) l.length (ints l)) := hid (by rw [hW2]; exact (ownsRow_setCell_other (ownsRow_setCell_other (ownsRow_setCell_other (ownsRow_setCell_other (ownsRow_setCell_other G1_1.out (a := ⟨w.heap.size + 1 + 1, 1, none⟩) ne1a _) (a := ⟨w.heap.size + 1 + 1, 2, none⟩) ne1a _) (a := ⟨w.heap.size + 1 + 1, 3, none⟩) ne1a _) (a := ⟨w.heap.size + 1 + 1, 4, none⟩) ne1a _) (a := ⟨w.heap.size + 1 + 1, 5, none⟩) ne1a _))
  have G2_2 : Hid (W2.ownsRow w.heap.size 9 1 (.slice q2 ps.length d2) ps.length (strs ps)) := hid (by rw [hW2]; exact (ownsRow_setCell_other (ownsRow_setCell_other (ownsRow_setCell_other (ownsRow_setCell_other (ownsRow_setCell_other G2_1.out (a := ⟨w.heap.size + 1 + 1, 1, none⟩) ne2a _) (a := ⟨w.heap.size + 1 + 1, 2, none⟩) ne2a _) (a := ⟨w.heap.size + 1 + 1, 3, none⟩) ne2a _) (a := ⟨w.heap.size + 1 + 1, 4, none⟩) ne2a _) (a := ⟨w.heap.size + 1 + 1, 5, none⟩) ne2a _))
  have hz2 : w.heap.size + 1 + 1 < W2.heap.size := by rw [hW2]; simpa using hz1
  have HW2 := hid hW2
  clear hW2 KO
  have k0 := (cell_of_row _ _ 0 _ _ _ V1.out).trans rfl
  have k1 := (cell_of_row _ _ 1 _ _ _ V1.out).trans rfl
  have k2 := (cell_of_row _ _ 2 _ _ _ V1.out).trans rfl
  have k3 := (cell_of_row _ _ 3 _ _ _ V1.out).trans rfl
  have k4 := (cell_of_row _ _ 4 _ _ _ V1.out).trans rfl
  have k5 := (cell_of_row _ _ 5 _ _ _ V1.out).trans rfl
  have k6 := (cell_of_row _ _ 6 _ _ _ V1.out).trans rfl
  have k7 := (cell_of_row _ _ 7 _ _ _ V1.out).trans rfl
  have k8 := (cell_of_row _ _ 8 _ _ _ V1.out).trans rfl
  have k9 := (cell_of_row _ _ 9 _ _ _ V1.out).trans rfl
  have k10 := (cell_of_row _ _ 10 _ _ _ V1.out).trans rfl
  have k11 := (cell_of_row _ _ 11 _ _ _ V1.out).trans rfl
  have k12 := (cell_of_row _ _ 12 _ _ _ V1.out).trans rfl
  have k13 := (cell_of_row _ _ 13 _ _ _ V1.out).trans rfl
  have j0 := (cell_of_row _ _ 0 _ _ _ O1.out).trans rfl
  have j1 := (cell_of_row _ _ 1 _ _ _ O1.out).trans rfl
  have j2 := (cell_of_row _ _ 2 _ _ _ O1.out).trans rfl
  have j3 := (cell_of_row _ _ 3 _ _ _ O1.out).trans rfl
  have j4 := (cell_of_row _ _ 4 _ _ _ O1.out).trans rfl
  have j5 := (cell_of_row _ _ 5 _ _ _ O1.out).trans rfl
  have j6 := (cell_of_row _ _ 6 _ _ _ O1.out).trans rfl
  have j7 := (cell_of_row _ _ 7 _ _ _ O1.out).trans rfl
  have j8 := (cell_of_row _ _ 8 _ _ _ O1.out).trans rfl
  have j9 := (cell_of_row _ _ 9 _ _ _ O1.out).trans rfl
  have j10 := (cell_of_row _ _ 10 _ _ _ O1.out).trans rfl
  have j11 := (cell_of_row _ _ 11 _ _ _ O1.out).trans rfl
  have j12 := (cell_of_row _ _ 12 _ _ _ O1.out).trans rfl
  have j13 := (cell_of_row _ _ 13 _ _ _ O1.out).trans rfl
  have f0 := st_thaw O1.out 0
  have f1 := st_thaw O1.out 1
  have f2 := st_thaw O1.out 2
  have f3 := st_thaw O1.out 3
  have f4 := st_thaw O1.out 4
  have f5 := st_thaw O1.out 5
  have f6 := st_thaw O1.out 6
  have f7 := st_thaw O1.out 7
  have f8 := st_thaw O1.out 8
  have f9 := st_thaw O1.out 9
  have f10 := st_thaw O1.out 10
  have f11 := st_thaw O1.out 11
  have f12 := st_thaw O1.out 12
  have f13 := st_thaw O1.out 13
  go_wp2_with (go_at_call 38; rw [← HW2.out]; refine (CV.out _ K2.out).mono ?_; rintro e w3 ⟨b3, rfl, hb, ho3⟩; refine Hid.out ?_)
  refine hid ?_
  clear k0 k1 k2 k3 k4 k5 k6 k7 k8 k9 k10 k11 k12 k13
  clear j0 j1 j2 j3 j4 j5 j6 j7 j8 j9 j10 j11 j12 j13
  clear f0 f1 f2 f3 f4 f5 f6 f7 f8 f9 f10 f11 f12 f13
  have K3 := hid (st_below K2.out (Nat.le_refl _) hb)
  have V3 := hid ((hb.block _ (by omega)).trans V2.out)
  have R3 := hid ((hb.block _ (by omega)).trans R2.out)
  have O3 := hid ((hb.block _ (by omega)).trans O2.out)
  have hz3 : w.heap.size + 1 + 1 < w3.heap.size := Nat.lt_of_lt_of_le hz2 hb.size
  have G1_3 := hid (own_below G1_2.out hb)
  have G2_3 := hid (own_below G2_2.out hb)
  obtain ⟨q3, d3, rfl, _, _⟩ := row_of_own encSeal_len ho3
  have G3_3 := hid (st_lower ho3 (show w.heap.size ≤ W2.heap.size by omega))
  have L3 := hid ho3.lt
  have ne3a : (.slice q3 ss.length d3 : Value).ownBlock ≠ some (w.heap.size + 1 + 1) := fun e => by have := (L3.out _ e).1; omega
  have ne3b : (.slice q3 ss.length d3 : Value).ownBlock ≠ some (w.heap.size + 1) := fun e => by have := (L3.out _ e).1; omega
  clear ho3
  clear hb
  obtain ⟨W4, hW4⟩ : ∃ W, W = ((((((w3.setCell ⟨w.heap.size + 1 + 1, 6, none⟩ (.slice q3 ss.length d3)).setCell ⟨w.heap.size + 1 + 1, 7, none⟩ (.int .i64 st)).setCell ⟨w.heap.size + 1 + 1, 8, none⟩ (.int .i64 y0)).setCell ⟨w.heap.size + 1 + 1, 9, none⟩ (.int .i64 y1)).setCell ⟨w.heap.size + 1 + 1, 10, none⟩ (.string y2)).setCell ⟨w.heap.size + 1 + 1, 11, none⟩ (.string y3)) := ⟨_, rfl⟩
  have K4 : Hid (Below w.heap.size w W4) := hid (by rw [hW4]; exact ((((((K3.out.setCell (p := ⟨w.heap.size + 1 + 1, 6, none⟩) (by show w.heap.size ≤ w.heap.size + 1 + 1; omega) _).setCell (p := ⟨w.heap.size + 1 + 1, 7, none⟩) (by show w.heap.size ≤ w.heap.size + 1 + 1; omega) _).setCell (p := ⟨w.heap.size + 1 + 1, 8, none⟩) (by show w.heap.size ≤ w.heap.size + 1 + 1; omega) _).setCell (p := ⟨w.heap.size + 1 + 1, 9, none⟩) (by show w.heap.size ≤ w.heap.size + 1 + 1; omega) _).setCell (p := ⟨w.heap.size + 1 + 1, 10, none⟩) (by show w.heap.size ≤ w.heap.size + 1 + 1; omega) _).setCell (p := ⟨w.heap.size + 1 + 1, 11, none⟩) (by show w.heap.size ≤ w.heap.size + 1 + 1; omega) _))
  have KO : Hid (Below (w.heap.size + 1 + 1) w3 W4) := hid (by rw [hW4]; exact (((((((Below.refl _ _).setCell (p := ⟨w.heap.size + 1 + 1, 6, none⟩) (by show w.heap.size + 1 + 1 ≤ w.heap.size + 1 + 1; omega) _).setCell (p := ⟨w.heap.size + 1 + 1, 7, none⟩) (by show w.heap.size + 1 + 1 ≤ w.heap.size + 1 + 1; omega) _).setCell (p := ⟨w.heap.size + 1 + 1, 8, none⟩) (by show w.heap.size + 1 + 1 ≤ w.heap.size + 1 + 1; omega) _).setCell (p := ⟨w.heap.size + 1 + 1, 9, none⟩) (by show w.heap.size + 1 + 1 ≤ w.heap.size + 1 + 1; omega) _).setCell (p := ⟨w.heap.size + 1 + 1, 10, none⟩) (by show w.heap.size + 1 + 1 ≤ w.heap.size + 1 + 1; omega) _).setCell (p := ⟨w.heap.size + 1 + 1, 11, none⟩) (by show w.heap.size + 1 + 1 ≤ w.heap.size + 1 + 1; omega) _))
  have V4 := hid ((KO.out.block _ (by omega)).trans V3.out)
  have R4 := hid ((KO.out.block _ (by omega)).trans R3.out)
  have O4 : Hid (W4.heap[w.heap.size + 1 + 1]? = some (.cells #[.string name, .string key, .int .i64 sz, .slice q1 l.length d1, .bool up, .slice q2 ps.length d2, .slice q3 ss.length d3, .int .i64 st, .int .i64 y0, .int .i64 y1, .string y2, .string y3, .slice none 0 0, .slice none 0 0] 49)) := hid (by rw [hW4]; exact (heap_setCell_same _ _ 11 _ _ _ (heap_setCell_same _ _ 10 _ _ _ (heap_setCell_same _ _ 9 _ _ _ (heap_setCell_same _ _ 8 _ _ _ (heap_setCell_same _ _ 7 _ _ _ (heap_setCell_same _ _ 6 _ _ _ O3.out)))))))
  have G1_4 : Hid (W4.ownsRow w.heap.size 2 1 (.slice q1 l.length d1) l.length (ints l)) := hid (by rw [hW4]; exact (ownsRow_setCell_other (ownsRow_setCell_other (ownsRow_setCell_other (ownsRow_setCell_other (ownsRow_setCell_other (ownsRow_setCell_other G1_3.out (a := ⟨w.heap.size + 1 + 1, 6, none⟩) ne1a _) (a := ⟨w.heap.size + 1 + 1, 7, none⟩) ne1a _) (a := ⟨w.heap.size + 1 + 1, 8, none⟩) ne1a _) (a := ⟨w.heap.size + 1 + 1, 9, none⟩) ne1a _) (a := ⟨w.heap.size + 1 + 1, 10, none⟩) ne1a _) (a := ⟨w.heap.size + 1 + 1, 11, none⟩) ne1a _))
  have G2_4 : Hid (W4.ownsRow w.heap.size 9 1 (.slice q2 ps.length d2) ps.length (strs ps)) := hid (by rw [hW4]; exact (ownsRow_setCell_other (ownsRow_setCell_other (ownsRow_setCell_other (ownsRow_setCell_other (ownsRow_setCell_other (ownsRow_setCell_other G2_3.out (a := ⟨w.heap.size + 1 + 1, 6, none⟩) ne2a _) (a := ⟨w.heap.size + 1 + 1, 7, none⟩) ne2a _) (a := ⟨w.heap.size + 1 + 1, 8, none⟩) ne2a _) (a := ⟨w.heap.size + 1 + 1, 9, none⟩) ne2a _) (a := ⟨w.heap.size + 1 + 1, 10, none⟩) ne2a _) (a := ⟨w.heap.size + 1 + 1, 11, none⟩) ne2a _))
  have G3_4 : Hid (W4.ownsRow w.heap.size 43 4 (.slice q3 ss.length d3) ss.length (flat encSeal ss)) := hid (by rw [hW4]; exact (ownsRow_setCell_other (ownsRow_setCell_other (ownsRow_setCell_other (ownsRow_setCell_other (ownsRow_setCell_other (ownsRow_setCell_other G3_3.out (a := ⟨w.heap.size + 1 + 1, 6, none⟩) ne3a _) (a := ⟨w.heap.size + 1 + 1, 7, none⟩) ne3a _) (a := ⟨w.heap.size + 1 + 1, 8, none⟩) ne3a _) (a := ⟨w.heap.size + 1 + 1, 9, none⟩) ne3a _) (a := ⟨w.heap.size + 1 + 1, 10, none⟩) ne3a _) (a := ⟨w.heap.size + 1 + 1, 11, none⟩) ne3a _))
  have hz4 : w.heap.size + 1 + 1 < W4.heap.size := by rw [hW4]; simpa using hz3
  have HW4 := hid hW4
  clear hW4 KO
  have k0 := (cell_of_row _ _ 0 _ _ _ V3.out).trans rfl
  have k1 := (cell_of_row _ _ 1 _ _ _ V3.out).trans rfl
  have k2 := (cell_of_row _ _ 2 _ _ _ V3.out).trans rfl
  have k3 := (cell_of_row _ _ 3 _ _ _ V3.out).trans rfl
  have k4 := (cell_of_row _ _ 4 _ _ _ V3.out).trans rfl
  have k5 := (cell_of_row _ _ 5 _ _ _ V3.out).trans rfl
  have k6 := (cell_of_row _ _ 6 _ _ _ V3.out).trans rfl
  have k7 := (cell_of_row _ _ 7 _ _ _ V3.out).trans rfl
  have k8 := (cell_of_row _ _ 8 _ _ _ V3.out).trans rfl
  have k9 := (cell_of_row _ _ 9 _ _ _ V3.out).trans rfl
  have k10 := (cell_of_row _ _ 10 _ _ _ V3.out).trans rfl
  have k11 := (cell_of_row _ _ 11 _ _ _ V3.out).trans rfl
  have k12 := (cell_of_row _ _ 12 _ _ _ V3.out).trans rfl
  have k13 := (cell_of_row _ _ 13 _ _ _ V3.out).trans rfl
  have j0 := (cell_of_row _ _ 0 _ _ _ O3.out).trans rfl
  have j1 := (cell_of_row _ _ 1 _ _ _ O3.out).trans rfl
  have j2 := (cell_of_row _ _ 2 _ _ _ O3.out).trans rfl
  have j3 := (cell_of_row _ _ 3 _ _ _ O3.out).trans rfl
  have j4 := (cell_of_row _ _ 4 _ _ _ O3.out).trans rfl
  have j5 := (cell_of_row _ _ 5 _ _ _ O3.out).trans rfl
  have j6 := (cell_of_row _ _ 6 _ _ _ O3.out).trans rfl
  have j7 := (cell_of_row _ _ 7 _ _ _ O3.out).trans rfl
  have j8 := (cell_of_row _ _ 8 _ _ _ O3.out).trans rfl
  have j9 := (cell_of_row _ _ 9 _ _ _ O3.out).trans rfl
  have j10 := (cell_of_row _ _ 10 _ _ _ O3.out).trans rfl
  have j11 := (cell_of_row _ _ 11 _ _ _ O3.out).trans rfl
  have j12 := (cell_of_row _ _ 12 _ _ _ O3.out).trans rfl
  have j13 := (cell_of_row _ _ 13 _ _ _ O3.out).trans rfl
  have f0 := st_thaw O3.out 0
  have f1 := st_thaw O3.out 1
  have f2 := st_thaw O3.out 2
  have f3 := st_thaw O3.out 3
  have f4 := st_thaw O3.out 4
  have f5 := st_thaw O3.out 5
  have f6 := st_thaw O3.out 6
  have f7 := st_thaw O3.out 7
  have f8 := st_thaw O3.out 8
  have f9 := st_thaw O3.out 9
  have f10 := st_thaw O3.out 10
  have f11 := st_thaw O3.out 11
  have f12 := st_thaw O3.out 12
  have f13 := st_thaw O3.out 13
  go_wp2_with (go_at_call 15; rw [← HW4.out]; refine (to_Images ims n4 _ _ (H4.out.on K4.out)).mono ?_; rintro e w5 ⟨rfl, hb, ho4⟩; refine Hid.out ?_)
  refine hid ?_
  clear k0 k1 k2 k3 k4 k5 k6 k7 k8 k9 k10 k11 k12 k13
  clear j0 j1 j2 j3 j4 j5 j6 j7 j8 j9 j10 j11 j12 j13
  clear f0 f1 f2 f3 f4 f5 f6 f7 f8 f9 f10 f11 f12 f13
  have K5 := hid (st_below K4.out (Nat.le_refl _) hb)
  have V5 := hid ((hb.block _ (by omega)).trans V4.out)
  have R5 := hid ((hb.block _ (by omega)).trans R4.out)
  have O5 := hid ((hb.block _ (by omega)).trans O4.out)
  have hz5 : w.heap.size + 1 + 1 < w5.heap.size := Nat.lt_of_lt_of_le hz4 hb.size
  have G1_5 := hid (own_below G1_4.out hb)
  have G2_5 := hid (own_below G2_4.out hb)
  have G3_5 := hid (own_below G3_4.out hb)
  have G4_5 := hid (st_lower ho4 (show w.heap.size ≤ W4.heap.size by omega))
  have L4 := hid ho4.lt
  have ne4a : (.slice (some ⟨W4.heap.size, 0, none⟩) ims.length ims.length : Value).ownBlock ≠ some (w.heap.size + 1 + 1) := fun e => by have := (L4.out _ e).1; omega
  have ne4b : (.slice (some ⟨W4.heap.size, 0, none⟩) ims.length ims.length : Value).ownBlock ≠ some (w.heap.size + 1) := fun e => by have := (L4.out _ e).1; omega
  clear ho4
  clear hb
  obtain ⟨W6, hW6⟩ : ∃ W, W = (w5.setCell ⟨w.heap.size + 1 + 1, 12, none⟩ (.slice (some ⟨W4.heap.size, 0, none⟩) ims.length ims.length)) := ⟨_, rfl⟩
  have K6 : Hid (Below w.heap.size w W6) := hid (by rw [hW6]; exact (K5.out.setCell (p := ⟨w.heap.size + 1 + 1, 12, none⟩) (by show w.heap.size ≤ w.heap.size + 1 + 1; omega) _))
  have KO : Hid (Below (w.heap.size + 1 + 1) w5 W6) := hid (by rw [hW6]; exact ((Below.refl _ _).setCell (p := ⟨w.heap.size + 1 + 1, 12, none⟩) (by show w.heap.size + 1 + 1 ≤ w.heap.size + 1 + 1; omega) _))
  have V6 := hid ((KO.out.block _ (by omega)).trans V5.out)
  have R6 := hid ((KO.out.block _ (by omega)).trans R5.out)
  have O6 : Hid (W6.heap[w.heap.size + 1 + 1]? = some (.cells #[.string name, .string key, .int .i64 sz, .slice q1 l.length d1, .bool up, .slice q2 ps.length d2, .slice q3 ss.length d3, .int .i64 st, .int .i64 y0, .int .i64 y1, .string y2, .string y3, .slice (some ⟨W4.heap.size, 0, none⟩) ims.length ims.length, .slice none 0 0] 49)) := hid (by rw [hW6]; exact (heap_setCell_same _ _ 12 _ _ _ O5.out))
  have G1_6 : Hid (W6.ownsRow w.heap.size 2 1 (.slice q1 l.length d1) l.length (ints l)) := hid (by rw [hW6]; exact (ownsRow_setCell_other G1_5.out (a := ⟨w.heap.size + 1 + 1, 12, none⟩) ne1a _))
  have G2_6 : Hid (W6.ownsRow w.heap.size 9 1 (.slice q2 ps.length d2) ps.length (strs ps)) := hid (by rw [hW6]; exact (ownsRow_setCell_other G2_5.out (a := ⟨w.heap.size + 1 + 1, 12, none⟩) ne2a _))
  have G3_6 : Hid (W6.ownsRow w.heap.size 43 4 (.slice q3 ss.length d3) ss.length (flat encSeal ss)) := hid (by rw [hW6]; exact (ownsRow_setCell_other G3_5.out (a := ⟨w.heap.size + 1 + 1, 12, none⟩) ne3a _))
  have G4_6 : Hid (W6.ownsRow w.heap.size 66 2 (.slice (some ⟨W4.heap.size, 0, none⟩) ims.length ims.length) ims.length (flat encImage ims)) := hid (by rw [hW6]; exact (ownsRow_setCell_other G4_5.out (a := ⟨w.heap.size + 1 + 1, 12, none⟩) ne4a _))
  have hz6 : w.heap.size + 1 + 1 < W6.heap.size := by rw [hW6]; simpa using hz5
  have HW6 := hid hW6
  clear hW6 KO
  have k0 := (cell_of_row _ _ 0 _ _ _ V5.out).trans rfl
  have k1 := (cell_of_row _ _ 1 _ _ _ V5.out).trans rfl
  have k2 := (cell_of_row _ _ 2 _ _ _ V5.out).trans rfl
  have k3 := (cell_of_row _ _ 3 _ _ _ V5.out).trans rfl
  have k4 := (cell_of_row _ _ 4 _ _ _ V5.out).trans rfl
  have k5 := (cell_of_row _ _ 5 _ _ _ V5.out).trans rfl
  have k6 := (cell_of_row _ _ 6 _ _ _ V5.out).trans rfl
  have k7 := (cell_of_row _ _ 7 _ _ _ V5.out).trans rfl
  have k8 := (cell_of_row _ _ 8 _ _ _ V5.out).trans rfl
  have k9 := (cell_of_row _ _ 9 _ _ _ V5.out).trans rfl
  have k10 := (cell_of_row _ _ 10 _ _ _ V5.out).trans rfl
  have k11 := (cell_of_row _ _ 11 _ _ _ V5.out).trans rfl
  have k12 := (cell_of_row _ _ 12 _ _ _ V5.out).trans rfl
  have k13 := (cell_of_row _ _ 13 _ _ _ V5.out).trans rfl
  have j0 := (cell_of_row _ _ 0 _ _ _ O5.out).trans rfl
  have j1 := (cell_of_row _ _ 1 _ _ _ O5.out).trans rfl
  have j2 := (cell_of_row _ _ 2 _ _ _ O5.out).trans rfl
  have j3 := (cell_of_row _ _ 3 _ _ _ O5.out).trans rfl
  have j4 := (cell_of_row _ _ 4 _ _ _ O5.out).trans rfl
  have j5 := (cell_of_row _ _ 5 _ _ _ O5.out).trans rfl
  have j6 := (cell_of_row _ _ 6 _ _ _ O5.out).trans rfl
  have j7 := (cell_of_row _ _ 7 _ _ _ O5.out).trans rfl
  have j8 := (cell_of_row _ _ 8 _ _ _ O5.out).trans rfl
  have j9 := (cell_of_row _ _ 9 _ _ _ O5.out).trans rfl
  have j10 := (cell_of_row _ _ 10 _ _ _ O5.out).trans rfl
  have j11 := (cell_of_row _ _ 11 _ _ _ O5.out).trans rfl
  have j12 := (cell_of_row _ _ 12 _ _ _ O5.out).trans rfl
  have j13 := (cell_of_row _ _ 13 _ _ _ O5.out).trans rfl
  have f0 := st_thaw O5.out 0
  have f1 := st_thaw O5.out 1
  have f2 := st_thaw O5.out 2
  have f3 := st_thaw O5.out 3
  have f4 := st_thaw O5.out 4
  have f5 := st_thaw O5.out 5
  have f6 := st_thaw O5.out 6
  have f7 := st_thaw O5.out 7
  have f8 := st_thaw O5.out 8
  have f9 := st_thaw O5.out 9
  have f10 := st_thaw O5.out 10
  have f11 := st_thaw O5.out 11
  have f12 := st_thaw O5.out 12
  have f13 := st_thaw O5.out 13
  go_wp2_with (go_at_call 39; rw [← HW6.out]; refine (to_Events es n5 _ _ (H5.out.on K6.out)).mono ?_; rintro e w7 ⟨rfl, hb, ho5⟩; refine Hid.out ?_)
  refine hid ?_
  clear k0 k1 k2 k3 k4 k5 k6 k7 k8 k9 k10 k11 k12 k13
  clear j0 j1 j2 j3 j4 j5 j6 j7 j8 j9 j10 j11 j12 j13
  clear f0 f1 f2 f3 f4 f5 f6 f7 f8 f9 f10 f11 f12 f13
  have K7 := hid (st_below K6.out (Nat.le_refl _) hb)
  have V7 := hid ((hb.block _ (by omega)).trans V6.out)
  have R7 := hid ((hb.block _ (by omega)).trans R6.out)
  have O7 := hid ((hb.block _ (by omega)).trans O6.out)
  have hz7 : w.heap.size + 1 + 1 < w7.heap.size := Nat.lt_of_lt_of_le hz6 hb.size
  have G1_7 := hid (own_below G1_6.out hb)
  have G2_7 := hid (own_below G2_6.out hb)
  have G3_7 := hid (own_below G3_6.out hb)
  have G4_7 := hid (own_below G4_6.out hb)
  have G5_7 := hid (st_lower ho5 (show w.heap.size ≤ W6.heap.size by omega))
  have L5 := hid ho5.lt
  have ne5a : (.slice (some ⟨W6.heap.size, 0, none⟩) es.length es.length : Value).ownBlock ≠ some (w.heap.size + 1 + 1) := fun e => by have := (L5.out _ e).1; omega
  have ne5b : (.slice (some ⟨W6.heap.size, 0, none⟩) es.length es.length : Value).ownBlock ≠ some (w.heap.size + 1) := fun e => by have := (L5.out _ e).1; omega
  clear ho5
  clear hb
  have k0 := (cell_of_row _ _ 0 _ _ _ V7.out).trans rfl
  have k1 := (cell_of_row _ _ 1 _ _ _ V7.out).trans rfl
  have k2 := (cell_of_row _ _ 2 _ _ _ V7.out).trans rfl
  have k3 := (cell_of_row _ _ 3 _ _ _ V7.out).trans rfl
  have k4 := (cell_of_row _ _ 4 _ _ _ V7.out).trans rfl
  have k5 := (cell_of_row _ _ 5 _ _ _ V7.out).trans rfl
  have k6 := (cell_of_row _ _ 6 _ _ _ V7.out).trans rfl
  have k7 := (cell_of_row _ _ 7 _ _ _ V7.out).trans rfl
  have k8 := (cell_of_row _ _ 8 _ _ _ V7.out).trans rfl
  have k9 := (cell_of_row _ _ 9 _ _ _ V7.out).trans rfl
  have k10 := (cell_of_row _ _ 10 _ _ _ V7.out).trans rfl
  have k11 := (cell_of_row _ _ 11 _ _ _ V7.out).trans rfl
  have k12 := (cell_of_row _ _ 12 _ _ _ V7.out).trans rfl
  have k13 := (cell_of_row _ _ 13 _ _ _ V7.out).trans rfl
  have j0 := (cell_of_row _ _ 0 _ _ _ O7.out).trans rfl
  have j1 := (cell_of_row _ _ 1 _ _ _ O7.out).trans rfl
  have j2 := (cell_of_row _ _ 2 _ _ _ O7.out).trans rfl
  have j3 := (cell_of_row _ _ 3 _ _ _ O7.out).trans rfl
  have j4 := (cell_of_row _ _ 4 _ _ _ O7.out).trans rfl
  have j5 := (cell_of_row _ _ 5 _ _ _ O7.out).trans rfl
  have j6 := (cell_of_row _ _ 6 _ _ _ O7.out).trans rfl
  have j7 := (cell_of_row _ _ 7 _ _ _ O7.out).trans rfl
  have j8 := (cell_of_row _ _ 8 _ _ _ O7.out).trans rfl
  have j9 := (cell_of_row _ _ 9 _ _ _ O7.out).trans rfl
  have j10 := (cell_of_row _ _ 10 _ _ _ O7.out).trans rfl
  have j11 := (cell_of_row _ _ 11 _ _ _ O7.out).trans rfl
  have j12 := (cell_of_row _ _ 12 _ _ _ O7.out).trans rfl
  have j13 := (cell_of_row _ _ 13 _ _ _ O7.out).trans rfl
  have f0 := st_thaw O7.out 0
  have f1 := st_thaw O7.out 1
  have f2 := st_thaw O7.out 2
  have f3 := st_thaw O7.out 3
  have f4 := st_thaw O7.out 4
  have f5 := st_thaw O7.out 5
  have f6 := st_thaw O7.out 6
  have f7 := st_thaw O7.out 7
  have f8 := st_thaw O7.out 8
  have f9 := st_thaw O7.out 9
  have f10 := st_thaw O7.out 10
  have f11 := st_thaw O7.out 11
  have f12 := st_thaw O7.out 12
  have f13 := st_thaw O7.out 13
  have r0 := (cell_of_row _ _ 0 _ _ _ R7.out).trans rfl
  have r1 := (cell_of_row _ _ 1 _ _ _ R7.out).trans rfl
  have r2 := (cell_of_row _ _ 2 _ _ _ R7.out).trans rfl
  have r3 := (cell_of_row _ _ 3 _ _ _ R7.out).trans rfl
  have r4 := (cell_of_row _ _ 4 _ _ _ R7.out).trans rfl
  have r5 := (cell_of_row _ _ 5 _ _ _ R7.out).trans rfl
  have r6 := (cell_of_row _ _ 6 _ _ _ R7.out).trans rfl
  have r7 := (cell_of_row _ _ 7 _ _ _ R7.out).trans rfl
  have r8 := (cell_of_row _ _ 8 _ _ _ R7.out).trans rfl
  have r9 := (cell_of_row _ _ 9 _ _ _ R7.out).trans rfl
  have r10 := (cell_of_row _ _ 10 _ _ _ R7.out).trans rfl
  have r11 := (cell_of_row _ _ 11 _ _ _ R7.out).trans rfl
  have r12 := (cell_of_row _ _ 12 _ _ _ R7.out).trans rfl
  have r13 := (cell_of_row _ _ 13 _ _ _ R7.out).trans rfl
  have g0 := st_thaw R7.out 0
  have g1 := st_thaw R7.out 1
  have g2 := st_thaw R7.out 2
  have g3 := st_thaw R7.out 3
  have g4 := st_thaw R7.out 4
  have g5 := st_thaw R7.out 5
  have g6 := st_thaw R7.out 6
  have g7 := st_thaw R7.out 7
  have g8 := st_thaw R7.out 8
  have g9 := st_thaw R7.out 9
  have g10 := st_thaw R7.out 10
  have g11 := st_thaw R7.out 11
  have g12 := st_thaw R7.out 12
  have g13 := st_thaw R7.out 13
  go_wp2
  refine bodyPost_ret (v := .agg #[.string name, .string key, .int .i64 sz, .slice q1 l.length d1, .bool up, .slice q2 ps.length d2, .slice q3 ss.length d3, .int .i64 st, .int .i64 y0, .int .i64 y1, .string y2, .string y3, .slice (some ⟨W4.heap.size, 0, none⟩) ims.length ims.length, .slice (some ⟨W6.heap.size, 0, none⟩) es.length es.length]) (by simp [results, Tryz.results10, go_sem, r0, r1, r2, r3, r4, r5, r6, r7, r8, r9, r10, r11, r12, r13]) rfl ⟨_, _, _, _, _, rfl, ?_, ?_, ?_, ?_, ?_, ?_⟩
  · exact (((((((((((((((K7.out.setCell (p := ⟨w.heap.size + 1 + 1, 13, none⟩) (by show w.heap.size ≤ w.heap.size + 1 + 1; omega) _).setCell (p := ⟨w.heap.size + 1, 0, none⟩) (by show w.heap.size ≤ w.heap.size + 1; omega) _).setCell (p := ⟨w.heap.size + 1, 1, none⟩) (by show w.heap.size ≤ w.heap.size + 1; omega) _).setCell (p := ⟨w.heap.size + 1, 2, none⟩) (by show w.heap.size ≤ w.heap.size + 1; omega) _).setCell (p := ⟨w.heap.size + 1, 3, none⟩) (by show w.heap.size ≤ w.heap.size + 1; omega) _).setCell (p := ⟨w.heap.size + 1, 4, none⟩) (by show w.heap.size ≤ w.heap.size + 1; omega) _).setCell (p := ⟨w.heap.size + 1, 5, none⟩) (by show w.heap.size ≤ w.heap.size + 1; omega) _).setCell (p := ⟨w.heap.size + 1, 6, none⟩) (by show w.heap.size ≤ w.heap.size + 1; omega) _).setCell (p := ⟨w.heap.size + 1, 7, none⟩) (by show w.heap.size ≤ w.heap.size + 1; omega) _).setCell (p := ⟨w.heap.size + 1, 8, none⟩) (by show w.heap.size ≤ w.heap.size + 1; omega) _).setCell (p := ⟨w.heap.size + 1, 9, none⟩) (by show w.heap.size ≤ w.heap.size + 1; omega) _).setCell (p := ⟨w.heap.size + 1, 10, none⟩) (by show w.heap.size ≤ w.heap.size + 1; omega) _).setCell (p := ⟨w.heap.size + 1, 11, none⟩) (by show w.heap.size ≤ w.heap.size + 1; omega) _).setCell (p := ⟨w.heap.size + 1, 12, none⟩) (by show w.heap.size ≤ w.heap.size + 1; omega) _).setCell (p := ⟨w.heap.size + 1, 13, none⟩) (by show w.heap.size ≤ w.heap.size + 1; omega) _)
  · exact row_in_own (ownsRow_setCell_other (ownsRow_setCell_other (ownsRow_setCell_other (ownsRow_setCell_other (ownsRow_setCell_other (ownsRow_setCell_other (ownsRow_setCell_other (ownsRow_setCell_other (ownsRow_setCell_other (ownsRow_setCell_other (ownsRow_setCell_other (ownsRow_setCell_other (ownsRow_setCell_other (ownsRow_setCell_other (ownsRow_setCell_other G1_7.out (a := ⟨w.heap.size + 1 + 1, 13, none⟩) ne1a _) (a := ⟨w.heap.size + 1, 0, none⟩) ne1b _) (a := ⟨w.heap.size + 1, 1, none⟩) ne1b _) (a := ⟨w.heap.size + 1, 2, none⟩) ne1b _) (a := ⟨w.heap.size + 1, 3, none⟩) ne1b _) (a := ⟨w.heap.size + 1, 4, none⟩) ne1b _) (a := ⟨w.heap.size + 1, 5, none⟩) ne1b _) (a := ⟨w.heap.size + 1, 6, none⟩) ne1b _) (a := ⟨w.heap.size + 1, 7, none⟩) ne1b _) (a := ⟨w.heap.size + 1, 8, none⟩) ne1b _) (a := ⟨w.heap.size + 1, 9, none⟩) ne1b _) (a := ⟨w.heap.size + 1, 10, none⟩) ne1b _) (a := ⟨w.heap.size + 1, 11, none⟩) ne1b _) (a := ⟨w.heap.size + 1, 12, none⟩) ne1b _) (a := ⟨w.heap.size + 1, 13, none⟩) ne1b _)
  · exact texts_of (ownsRow_setCell_other (ownsRow_setCell_other (ownsRow_setCell_other (ownsRow_setCell_other (ownsRow_setCell_other (ownsRow_setCell_other (ownsRow_setCell_other (ownsRow_setCell_other (ownsRow_setCell_other (ownsRow_setCell_other (ownsRow_setCell_other (ownsRow_setCell_other (ownsRow_setCell_other (ownsRow_setCell_other (ownsRow_setCell_other G2_7.out (a := ⟨w.heap.size + 1 + 1, 13, none⟩) ne2a _) (a := ⟨w.heap.size + 1, 0, none⟩) ne2b _) (a := ⟨w.heap.size + 1, 1, none⟩) ne2b _) (a := ⟨w.heap.size + 1, 2, none⟩) ne2b _) (a := ⟨w.heap.size + 1, 3, none⟩) ne2b _) (a := ⟨w.heap.size + 1, 4, none⟩) ne2b _) (a := ⟨w.heap.size + 1, 5, none⟩) ne2b _) (a := ⟨w.heap.size + 1, 6, none⟩) ne2b _) (a := ⟨w.heap.size + 1, 7, none⟩) ne2b _) (a := ⟨w.heap.size + 1, 8, none⟩) ne2b _) (a := ⟨w.heap.size + 1, 9, none⟩) ne2b _) (a := ⟨w.heap.size + 1, 10, none⟩) ne2b _) (a := ⟨w.heap.size + 1, 11, none⟩) ne2b _) (a := ⟨w.heap.size + 1, 12, none⟩) ne2b _) (a := ⟨w.heap.size + 1, 13, none⟩) ne2b _)
  · exact row_of_own encSeal_len (ownsRow_setCell_other (ownsRow_setCell_other (ownsRow_setCell_other (ownsRow_setCell_other (ownsRow_setCell_other (ownsRow_setCell_other (ownsRow_setCell_other (ownsRow_setCell_other (ownsRow_setCell_other (ownsRow_setCell_other (ownsRow_setCell_other (ownsRow_setCell_other (ownsRow_setCell_other (ownsRow_setCell_other (ownsRow_setCell_other G3_7.out (a := ⟨w.heap.size + 1 + 1, 13, none⟩) ne3a _) (a := ⟨w.heap.size + 1, 0, none⟩) ne3b _) (a := ⟨w.heap.size + 1, 1, none⟩) ne3b _) (a := ⟨w.heap.size + 1, 2, none⟩) ne3b _) (a := ⟨w.heap.size + 1, 3, none⟩) ne3b _) (a := ⟨w.heap.size + 1, 4, none⟩) ne3b _) (a := ⟨w.heap.size + 1, 5, none⟩) ne3b _) (a := ⟨w.heap.size + 1, 6, none⟩) ne3b _) (a := ⟨w.heap.size + 1, 7, none⟩) ne3b _) (a := ⟨w.heap.size + 1, 8, none⟩) ne3b _) (a := ⟨w.heap.size + 1, 9, none⟩) ne3b _) (a := ⟨w.heap.size + 1, 10, none⟩) ne3b _) (a := ⟨w.heap.size + 1, 11, none⟩) ne3b _) (a := ⟨w.heap.size + 1, 12, none⟩) ne3b _) (a := ⟨w.heap.size + 1, 13, none⟩) ne3b _)
  · exact row_of_own encImage_len (ownsRow_setCell_other (ownsRow_setCell_other (ownsRow_setCell_other (ownsRow_setCell_other (ownsRow_setCell_other (ownsRow_setCell_other (ownsRow_setCell_other (ownsRow_setCell_other (ownsRow_setCell_other (ownsRow_setCell_other (ownsRow_setCell_other (ownsRow_setCell_other (ownsRow_setCell_other (ownsRow_setCell_other (ownsRow_setCell_other G4_7.out (a := ⟨w.heap.size + 1 + 1, 13, none⟩) ne4a _) (a := ⟨w.heap.size + 1, 0, none⟩) ne4b _) (a := ⟨w.heap.size + 1, 1, none⟩) ne4b _) (a := ⟨w.heap.size + 1, 2, none⟩) ne4b _) (a := ⟨w.heap.size + 1, 3, none⟩) ne4b _) (a := ⟨w.heap.size + 1, 4, none⟩) ne4b _) (a := ⟨w.heap.size + 1, 5, none⟩) ne4b _) (a := ⟨w.heap.size + 1, 6, none⟩) ne4b _) (a := ⟨w.heap.size + 1, 7, none⟩) ne4b _) (a := ⟨w.heap.size + 1, 8, none⟩) ne4b _) (a := ⟨w.heap.size + 1, 9, none⟩) ne4b _) (a := ⟨w.heap.size + 1, 10, none⟩) ne4b _) (a := ⟨w.heap.size + 1, 11, none⟩) ne4b _) (a := ⟨w.heap.size + 1, 12, none⟩) ne4b _) (a := ⟨w.heap.size + 1, 13, none⟩) ne4b _)
  · exact row_of_own encEvent_len (ownsRow_setCell_other (ownsRow_setCell_other (ownsRow_setCell_other (ownsRow_setCell_other (ownsRow_setCell_other (ownsRow_setCell_other (ownsRow_setCell_other (ownsRow_setCell_other (ownsRow_setCell_other (ownsRow_setCell_other (ownsRow_setCell_other (ownsRow_setCell_other (ownsRow_setCell_other (ownsRow_setCell_other (ownsRow_setCell_other G5_7.out (a := ⟨w.heap.size + 1 + 1, 13, none⟩) ne5a _) (a := ⟨w.heap.size + 1, 0, none⟩) ne5b _) (a := ⟨w.heap.size + 1, 1, none⟩) ne5b _) (a := ⟨w.heap.size + 1, 2, none⟩) ne5b _) (a := ⟨w.heap.size + 1, 3, none⟩) ne5b _) (a := ⟨w.heap.size + 1, 4, none⟩) ne5b _) (a := ⟨w.heap.size + 1, 5, none⟩) ne5b _) (a := ⟨w.heap.size + 1, 6, none⟩) ne5b _) (a := ⟨w.heap.size + 1, 7, none⟩) ne5b _) (a := ⟨w.heap.size + 1, 8, none⟩) ne5b _) (a := ⟨w.heap.size + 1, 9, none⟩) ne5b _) (a := ⟨w.heap.size + 1, 10, none⟩) ne5b _) (a := ⟨w.heap.size + 1, 11, none⟩) ne5b _) (a := ⟨w.heap.size + 1, 12, none⟩) ne5b _) (a := ⟨w.heap.size + 1, 13, none⟩) ne5b _)
end Go.Proofs.YtnkaabgjfdbdoaaGreatDoor
