/- The laws' helpers on a Vault and on a Device: two held against each other; marks where only the words of the Root lie in memory. Written by a program of ours. -/
import Derived.Test.YtnkaabgjfdbdoaaGreatDoorRowSeal
import Derived.Test.YtnkaabgjfdbdoaaGreatDoorPackRR
import Derived.Test.YtnkaabgjfdbdoaaGreatDoorRowEvent
import Derived.Test.YtnkaabgjfdbdoaaGreatDoorPackRoot
import Derived.Test.YtnkaabgjfdbdoaaGreatDoorPackRead
import Derived.Test.YtnkaabgjfdbdoaaGreatDoorPackTab
namespace Go.Proofs.YtnkaabgjfdbdoaaGreatDoor
open Go.RowKit
open Go.Lib (hid)

set_option maxRecDepth 20000 in
set_option maxHeartbeats 2000000 in
theorem eq_vault (es : List SealD) (hn : es.length ≤ 100000000) (stage x0 x1 : Int) (x2 x3 : ByteArray) (a b : Value) (w : World) (ha : FRow encSeal 4 w a es) (hb : FRow encSeal 4 w b es) :
    Calls Tryz.prog 47 #[.agg #[a, .int .i64 stage, .int .i64 x0, .int .i64 x1, .string x2, .string x3], .agg #[b, .int .i64 stage, .int .i64 x0, .int .i64 x1, .string x2, .string x3]] w fun e w' => e = .returned (.bool true) ∧ Below w.heap.size w w' := by
  have HA := hid ha
  have HB := hid hb
  obtain ⟨p, c, rfl, _, _⟩ := ha
  obtain ⟨q, d, rfl, _, _⟩ := hb
  obtain ⟨W0, hW0⟩ : ∃ W0, W0 = (w.alloc (.cells #[.slice p es.length c, .int .i64 stage, .int .i64 x0, .int .i64 x1, .string x2, .string x3] 45)).alloc (.cells #[.slice q es.length d, .int .i64 stage, .int .i64 x0, .int .i64 x1, .string x2, .string x3] 45) := ⟨_, rfl⟩
  have K0 : Hid (Below w.heap.size w W0) := hid (by rw [hW0]; exact ((Below.refl _ _).alloc (Nat.le_refl _) _).alloc (by simp) _)
  have V0 : Hid (W0.heap[w.heap.size]? = some (.cells #[.slice p es.length c, .int .i64 stage, .int .i64 x0, .int .i64 x1, .string x2, .string x3] 45)) := hid (by rw [hW0]; exact heap_two_old _ _)
  have U0 : Hid (W0.heap[w.heap.size + 1]? = some (.cells #[.slice q es.length d, .int .i64 stage, .int .i64 x0, .int .i64 x1, .string x2, .string x3] 45)) := hid (by rw [hW0]; exact heap_two_new _ _)
  have hz0 : w.heap.size + 1 < W0.heap.size := by rw [hW0]; simp
  have HW0 := hid hW0
  have k0 := (cell_of_row _ _ 0 _ _ _ V0.out).trans rfl
  have k1 := (cell_of_row _ _ 1 _ _ _ V0.out).trans rfl
  have k2 := (cell_of_row _ _ 2 _ _ _ V0.out).trans rfl
  have k3 := (cell_of_row _ _ 3 _ _ _ V0.out).trans rfl
  have k4 := (cell_of_row _ _ 4 _ _ _ V0.out).trans rfl
  have k5 := (cell_of_row _ _ 5 _ _ _ V0.out).trans rfl
  have j0 := (cell_of_row _ _ 0 _ _ _ U0.out).trans rfl
  have j1 := (cell_of_row _ _ 1 _ _ _ U0.out).trans rfl
  have j2 := (cell_of_row _ _ 2 _ _ _ U0.out).trans rfl
  have j3 := (cell_of_row _ _ 3 _ _ _ U0.out).trans rfl
  have j4 := (cell_of_row _ _ 4 _ _ _ U0.out).trans rfl
  have j5 := (cell_of_row _ _ 5 _ _ _ U0.out).trans rfl
  clear hW0 k0 k1 k2 k3 k4 k5 j0 j1 j2 j3 j4 j5
  go_enter Tryz.func47, Tryz.ntmps47
  go_wp2_with (go_at_call 108; rw [← HW0.out]; refine (eq_Seals es hn _ _ _ (HA.out.on K0.out) (HB.out.on K0.out)).mono ?_; rintro e w1 ⟨rfl, hb1⟩; refine Hid.out ?_)
  refine hid ?_
  have K1 := hid (K0.out.trans (hb1.mono K0.out.size))
  have V1 := hid ((hb1.block w.heap.size (by omega)).trans V0.out)
  have U1 := hid ((hb1.block (w.heap.size + 1) (by omega)).trans U0.out)
  have hz1 := hb1.size
  clear hb1
  have k0 := (cell_of_row _ _ 0 _ _ _ V1.out).trans rfl
  have k1 := (cell_of_row _ _ 1 _ _ _ V1.out).trans rfl
  have k2 := (cell_of_row _ _ 2 _ _ _ V1.out).trans rfl
  have k3 := (cell_of_row _ _ 3 _ _ _ V1.out).trans rfl
  have k4 := (cell_of_row _ _ 4 _ _ _ V1.out).trans rfl
  have k5 := (cell_of_row _ _ 5 _ _ _ V1.out).trans rfl
  have j0 := (cell_of_row _ _ 0 _ _ _ U1.out).trans rfl
  have j1 := (cell_of_row _ _ 1 _ _ _ U1.out).trans rfl
  have j2 := (cell_of_row _ _ 2 _ _ _ U1.out).trans rfl
  have j3 := (cell_of_row _ _ 3 _ _ _ U1.out).trans rfl
  have j4 := (cell_of_row _ _ 4 _ _ _ U1.out).trans rfl
  have j5 := (cell_of_row _ _ 5 _ _ _ U1.out).trans rfl
  go_wp2_with (go_at_call 109; refine (eq_Seal x0 x1 x2 x3 _).mono ?_; rintro e w2 ⟨rfl, hb2⟩; refine Hid.out ?_)
  refine hid ?_
  have K2 := hid (K1.out.trans (hb2.mono K1.out.size))
  have V2 := hid ((hb2.block w.heap.size (by omega)).trans V1.out)
  have U2 := hid ((hb2.block (w.heap.size + 1) (by omega)).trans U1.out)
  have hz2 := hb2.size
  clear k0 k1 k2 k3 k4 k5 j0 j1 j2 j3 j4 j5
  clear hb2
  have k0 := (cell_of_row _ _ 0 _ _ _ V2.out).trans rfl
  have k1 := (cell_of_row _ _ 1 _ _ _ V2.out).trans rfl
  have k2 := (cell_of_row _ _ 2 _ _ _ V2.out).trans rfl
  have k3 := (cell_of_row _ _ 3 _ _ _ V2.out).trans rfl
  have k4 := (cell_of_row _ _ 4 _ _ _ V2.out).trans rfl
  have k5 := (cell_of_row _ _ 5 _ _ _ V2.out).trans rfl
  have j0 := (cell_of_row _ _ 0 _ _ _ U2.out).trans rfl
  have j1 := (cell_of_row _ _ 1 _ _ _ U2.out).trans rfl
  have j2 := (cell_of_row _ _ 2 _ _ _ U2.out).trans rfl
  have j3 := (cell_of_row _ _ 3 _ _ _ U2.out).trans rfl
  have j4 := (cell_of_row _ _ 4 _ _ _ U2.out).trans rfl
  have j5 := (cell_of_row _ _ 5 _ _ _ U2.out).trans rfl
  go_wp2
  go_ret
  exact ⟨rfl, K2.out⟩

set_option maxRecDepth 20000 in
set_option maxHeartbeats 2000000 in
theorem eq_device (name key : ByteArray) (s : Int) (l : List Int) (hl : l.length ≤ 1000000000) (up : Bool) (ps : List (List UInt8)) (hps : ps.length ≤ 1000000000) (ss : List SealD) (hss : ss.length ≤ 100000000) (stage x0 x1 : Int) (x2 x3 : ByteArray) (is : List ImageD) (his : is.length ≤ 100000000) (es : List EventD) (hes : es.length ≤ 100000000) (a1 a2 a3 a4 a5 b1 b2 b3 b4 b5 : Value) (w : World) (ha1 : RowIn w a1 l) (ha2 : TextsAt w a2 ps) (ha3 : FRow encSeal 4 w a3 ss) (ha4 : FRow encImage 2 w a4 is) (ha5 : FRow encEvent 2 w a5 es) (hb1 : RowIn w b1 l) (hb2 : TextsAt w b2 ps) (hb3 : FRow encSeal 4 w b3 ss) (hb4 : FRow encImage 2 w b4 is) (hb5 : FRow encEvent 2 w b5 es) :
    Calls Tryz.prog 12 #[.agg #[.string name, .string key, .int .i64 s, a1, .bool up, a2, a3, .int .i64 stage, .int .i64 x0, .int .i64 x1, .string x2, .string x3, a4, a5], .agg #[.string name, .string key, .int .i64 s, b1, .bool up, b2, b3, .int .i64 stage, .int .i64 x0, .int .i64 x1, .string x2, .string x3, b4, b5]] w fun e w' => e = .returned (.bool true) ∧ Below w.heap.size w w' := by
  have HA1 := hid ha1
  have HA2 := hid ha2
  have HA3 := hid ha3
  have HA4 := hid ha4
  have HA5 := hid ha5
  have HB1 := hid hb1
  have HB2 := hid hb2
  have HB3 := hid hb3
  have HB4 := hid hb4
  have HB5 := hid hb5
  obtain ⟨p1, c1, rfl, _, _⟩ := ha1
  obtain ⟨p2, c2, rfl, _⟩ := ha2
  obtain ⟨p3, c3, rfl, _, _⟩ := ha3
  obtain ⟨p4, c4, rfl, _, _⟩ := ha4
  obtain ⟨p5, c5, rfl, _, _⟩ := ha5
  obtain ⟨q1, d1, rfl, _, _⟩ := hb1
  obtain ⟨q2, d2, rfl, _⟩ := hb2
  obtain ⟨q3, d3, rfl, _, _⟩ := hb3
  obtain ⟨q4, d4, rfl, _, _⟩ := hb4
  obtain ⟨q5, d5, rfl, _, _⟩ := hb5
  obtain ⟨W0, hW0⟩ : ∃ W0, W0 = (w.alloc (.cells #[.string name, .string key, .int .i64 s, .slice p1 l.length c1, .bool up, .slice p2 ps.length c2, .slice p3 ss.length c3, .int .i64 stage, .int .i64 x0, .int .i64 x1, .string x2, .string x3, .slice p4 is.length c4, .slice p5 es.length c5] 49)).alloc (.cells #[.string name, .string key, .int .i64 s, .slice q1 l.length d1, .bool up, .slice q2 ps.length d2, .slice q3 ss.length d3, .int .i64 stage, .int .i64 x0, .int .i64 x1, .string x2, .string x3, .slice q4 is.length d4, .slice q5 es.length d5] 49) := ⟨_, rfl⟩
  have K0 : Hid (Below w.heap.size w W0) := hid (by rw [hW0]; exact ((Below.refl _ _).alloc (Nat.le_refl _) _).alloc (by simp) _)
  have V0 : Hid (W0.heap[w.heap.size]? = some (.cells #[.string name, .string key, .int .i64 s, .slice p1 l.length c1, .bool up, .slice p2 ps.length c2, .slice p3 ss.length c3, .int .i64 stage, .int .i64 x0, .int .i64 x1, .string x2, .string x3, .slice p4 is.length c4, .slice p5 es.length c5] 49)) := hid (by rw [hW0]; exact heap_two_old _ _)
  have U0 : Hid (W0.heap[w.heap.size + 1]? = some (.cells #[.string name, .string key, .int .i64 s, .slice q1 l.length d1, .bool up, .slice q2 ps.length d2, .slice q3 ss.length d3, .int .i64 stage, .int .i64 x0, .int .i64 x1, .string x2, .string x3, .slice q4 is.length d4, .slice q5 es.length d5] 49)) := hid (by rw [hW0]; exact heap_two_new _ _)
  have hz0 : w.heap.size + 1 < W0.heap.size := by rw [hW0]; simp
  have hy0 : (name.toList == name.toList) = true := by simp
  have hn0 : (name.toList != name.toList) = false := by simp
  have HW0 := hid hW0
  have k0 := (cell_of_row _ _ 0 _ _ _ V0.out).trans rfl
  have k1 := (cell_of_row _ _ 1 _ _ _ V0.out).trans rfl
  have k2 := (cell_of_row _ _ 2 _ _ _ V0.out).trans rfl
  have k3 := (cell_of_row _ _ 3 _ _ _ V0.out).trans rfl
  have k4 := (cell_of_row _ _ 4 _ _ _ V0.out).trans rfl
  have k5 := (cell_of_row _ _ 5 _ _ _ V0.out).trans rfl
  have k6 := (cell_of_row _ _ 6 _ _ _ V0.out).trans rfl
  have k7 := (cell_of_row _ _ 7 _ _ _ V0.out).trans rfl
  have k8 := (cell_of_row _ _ 8 _ _ _ V0.out).trans rfl
  have k9 := (cell_of_row _ _ 9 _ _ _ V0.out).trans rfl
  have k10 := (cell_of_row _ _ 10 _ _ _ V0.out).trans rfl
  have k11 := (cell_of_row _ _ 11 _ _ _ V0.out).trans rfl
  have k12 := (cell_of_row _ _ 12 _ _ _ V0.out).trans rfl
  have k13 := (cell_of_row _ _ 13 _ _ _ V0.out).trans rfl
  have j0 := (cell_of_row _ _ 0 _ _ _ U0.out).trans rfl
  have j1 := (cell_of_row _ _ 1 _ _ _ U0.out).trans rfl
  have j2 := (cell_of_row _ _ 2 _ _ _ U0.out).trans rfl
  have j3 := (cell_of_row _ _ 3 _ _ _ U0.out).trans rfl
  have j4 := (cell_of_row _ _ 4 _ _ _ U0.out).trans rfl
  have j5 := (cell_of_row _ _ 5 _ _ _ U0.out).trans rfl
  have j6 := (cell_of_row _ _ 6 _ _ _ U0.out).trans rfl
  have j7 := (cell_of_row _ _ 7 _ _ _ U0.out).trans rfl
  have j8 := (cell_of_row _ _ 8 _ _ _ U0.out).trans rfl
  have j9 := (cell_of_row _ _ 9 _ _ _ U0.out).trans rfl
  have j10 := (cell_of_row _ _ 10 _ _ _ U0.out).trans rfl
  have j11 := (cell_of_row _ _ 11 _ _ _ U0.out).trans rfl
  have j12 := (cell_of_row _ _ 12 _ _ _ U0.out).trans rfl
  have j13 := (cell_of_row _ _ 13 _ _ _ U0.out).trans rfl
  clear hW0 k0 k1 k2 k3 k4 k5 k6 k7 k8 k9 k10 k11 k12 k13 j0 j1 j2 j3 j4 j5 j6 j7 j8 j9 j10 j11 j12 j13
  go_enter Tryz.func12, Tryz.ntmps12
  go_wp2_with (go_at_call 46; rw [← HW0.out]; refine (eq_root key s l hl up ps hps _ _ _ _ _ (HA1.out.on K0.out) (HA2.out.on K0.out) (HB1.out.on K0.out) (HB2.out.on K0.out)).mono ?_; rintro e w1 ⟨rfl, hb1⟩; refine Hid.out ?_)
  refine hid ?_
  have K1 := hid (K0.out.trans (hb1.mono K0.out.size))
  have V1 := hid ((hb1.block w.heap.size (by omega)).trans V0.out)
  have U1 := hid ((hb1.block (w.heap.size + 1) (by omega)).trans U0.out)
  have hz1 := hb1.size
  clear hb1
  have k0 := (cell_of_row _ _ 0 _ _ _ V1.out).trans rfl
  have k1 := (cell_of_row _ _ 1 _ _ _ V1.out).trans rfl
  have k2 := (cell_of_row _ _ 2 _ _ _ V1.out).trans rfl
  have k3 := (cell_of_row _ _ 3 _ _ _ V1.out).trans rfl
  have k4 := (cell_of_row _ _ 4 _ _ _ V1.out).trans rfl
  have k5 := (cell_of_row _ _ 5 _ _ _ V1.out).trans rfl
  have k6 := (cell_of_row _ _ 6 _ _ _ V1.out).trans rfl
  have k7 := (cell_of_row _ _ 7 _ _ _ V1.out).trans rfl
  have k8 := (cell_of_row _ _ 8 _ _ _ V1.out).trans rfl
  have k9 := (cell_of_row _ _ 9 _ _ _ V1.out).trans rfl
  have k10 := (cell_of_row _ _ 10 _ _ _ V1.out).trans rfl
  have k11 := (cell_of_row _ _ 11 _ _ _ V1.out).trans rfl
  have k12 := (cell_of_row _ _ 12 _ _ _ V1.out).trans rfl
  have k13 := (cell_of_row _ _ 13 _ _ _ V1.out).trans rfl
  have j0 := (cell_of_row _ _ 0 _ _ _ U1.out).trans rfl
  have j1 := (cell_of_row _ _ 1 _ _ _ U1.out).trans rfl
  have j2 := (cell_of_row _ _ 2 _ _ _ U1.out).trans rfl
  have j3 := (cell_of_row _ _ 3 _ _ _ U1.out).trans rfl
  have j4 := (cell_of_row _ _ 4 _ _ _ U1.out).trans rfl
  have j5 := (cell_of_row _ _ 5 _ _ _ U1.out).trans rfl
  have j6 := (cell_of_row _ _ 6 _ _ _ U1.out).trans rfl
  have j7 := (cell_of_row _ _ 7 _ _ _ U1.out).trans rfl
  have j8 := (cell_of_row _ _ 8 _ _ _ U1.out).trans rfl
  have j9 := (cell_of_row _ _ 9 _ _ _ U1.out).trans rfl
  have j10 := (cell_of_row _ _ 10 _ _ _ U1.out).trans rfl
  have j11 := (cell_of_row _ _ 11 _ _ _ U1.out).trans rfl
  have j12 := (cell_of_row _ _ 12 _ _ _ U1.out).trans rfl
  have j13 := (cell_of_row _ _ 13 _ _ _ U1.out).trans rfl
  go_wp2_with (go_at_call 47; refine (eq_vault ss hss stage x0 x1 x2 x3 _ _ _ (HA3.out.on K1.out) (HB3.out.on K1.out)).mono ?_; rintro e w2 ⟨rfl, hb2⟩; refine Hid.out ?_)
  refine hid ?_
  have K2 := hid (K1.out.trans (hb2.mono K1.out.size))
  have V2 := hid ((hb2.block w.heap.size (by omega)).trans V1.out)
  have U2 := hid ((hb2.block (w.heap.size + 1) (by omega)).trans U1.out)
  have hz2 := hb2.size
  clear k0 k1 k2 k3 k4 k5 k6 k7 k8 k9 k10 k11 k12 k13 j0 j1 j2 j3 j4 j5 j6 j7 j8 j9 j10 j11 j12 j13
  clear hb2
  have k0 := (cell_of_row _ _ 0 _ _ _ V2.out).trans rfl
  have k1 := (cell_of_row _ _ 1 _ _ _ V2.out).trans rfl
  have k2 := (cell_of_row _ _ 2 _ _ _ V2.out).trans rfl
  have k3 := (cell_of_row _ _ 3 _ _ _ V2.out).trans rfl
  have k4 := (cell_of_row _ _ 4 _ _ _ V2.out).trans rfl
  have k5 := (cell_of_row _ _ 5 _ _ _ V2.out).trans rfl
  have k6 := (cell_of_row _ _ 6 _ _ _ V2.out).trans rfl
  have k7 := (cell_of_row _ _ 7 _ _ _ V2.out).trans rfl
  have k8 := (cell_of_row _ _ 8 _ _ _ V2.out).trans rfl
  have k9 := (cell_of_row _ _ 9 _ _ _ V2.out).trans rfl
  have k10 := (cell_of_row _ _ 10 _ _ _ V2.out).trans rfl
  have k11 := (cell_of_row _ _ 11 _ _ _ V2.out).trans rfl
  have k12 := (cell_of_row _ _ 12 _ _ _ V2.out).trans rfl
  have k13 := (cell_of_row _ _ 13 _ _ _ V2.out).trans rfl
  have j0 := (cell_of_row _ _ 0 _ _ _ U2.out).trans rfl
  have j1 := (cell_of_row _ _ 1 _ _ _ U2.out).trans rfl
  have j2 := (cell_of_row _ _ 2 _ _ _ U2.out).trans rfl
  have j3 := (cell_of_row _ _ 3 _ _ _ U2.out).trans rfl
  have j4 := (cell_of_row _ _ 4 _ _ _ U2.out).trans rfl
  have j5 := (cell_of_row _ _ 5 _ _ _ U2.out).trans rfl
  have j6 := (cell_of_row _ _ 6 _ _ _ U2.out).trans rfl
  have j7 := (cell_of_row _ _ 7 _ _ _ U2.out).trans rfl
  have j8 := (cell_of_row _ _ 8 _ _ _ U2.out).trans rfl
  have j9 := (cell_of_row _ _ 9 _ _ _ U2.out).trans rfl
  have j10 := (cell_of_row _ _ 10 _ _ _ U2.out).trans rfl
  have j11 := (cell_of_row _ _ 11 _ _ _ U2.out).trans rfl
  have j12 := (cell_of_row _ _ 12 _ _ _ U2.out).trans rfl
  have j13 := (cell_of_row _ _ 13 _ _ _ U2.out).trans rfl
  go_wp2_with (go_at_call 17; refine (eq_Images is his _ _ _ (HA4.out.on K2.out) (HB4.out.on K2.out)).mono ?_; rintro e w3 ⟨rfl, hb3⟩; refine Hid.out ?_)
  refine hid ?_
  have K3 := hid (K2.out.trans (hb3.mono K2.out.size))
  have V3 := hid ((hb3.block w.heap.size (by omega)).trans V2.out)
  have U3 := hid ((hb3.block (w.heap.size + 1) (by omega)).trans U2.out)
  have hz3 := hb3.size
  clear k0 k1 k2 k3 k4 k5 k6 k7 k8 k9 k10 k11 k12 k13 j0 j1 j2 j3 j4 j5 j6 j7 j8 j9 j10 j11 j12 j13
  clear hb3
  have k0 := (cell_of_row _ _ 0 _ _ _ V3.out).trans rfl
  have k1 := (cell_of_row _ _ 1 _ _ _ V3.out).trans rfl
  have k2 := (cell_of_row _ _ 2 _ _ _ V3.out).trans rfl
  have k3 := (cell_of_row _ _ 3 _ _ _ V3.out).trans rfl
  have k4 := (cell_of_row _ _ 4 _ _ _ V3.out).trans rfl
  have k5 := (cell_of_row _ _ 5 _ _ _ V3.out).trans rfl
  have k6 := (cell_of_row _ _ 6 _ _ _ V3.out).trans rfl
  have k7 := (cell_of_row _ _ 7 _ _ _ V3.out).trans rfl
  have k8 := (cell_of_row _ _ 8 _ _ _ V3.out).trans rfl
  have k9 := (cell_of_row _ _ 9 _ _ _ V3.out).trans rfl
  have k10 := (cell_of_row _ _ 10 _ _ _ V3.out).trans rfl
  have k11 := (cell_of_row _ _ 11 _ _ _ V3.out).trans rfl
  have k12 := (cell_of_row _ _ 12 _ _ _ V3.out).trans rfl
  have k13 := (cell_of_row _ _ 13 _ _ _ V3.out).trans rfl
  have j0 := (cell_of_row _ _ 0 _ _ _ U3.out).trans rfl
  have j1 := (cell_of_row _ _ 1 _ _ _ U3.out).trans rfl
  have j2 := (cell_of_row _ _ 2 _ _ _ U3.out).trans rfl
  have j3 := (cell_of_row _ _ 3 _ _ _ U3.out).trans rfl
  have j4 := (cell_of_row _ _ 4 _ _ _ U3.out).trans rfl
  have j5 := (cell_of_row _ _ 5 _ _ _ U3.out).trans rfl
  have j6 := (cell_of_row _ _ 6 _ _ _ U3.out).trans rfl
  have j7 := (cell_of_row _ _ 7 _ _ _ U3.out).trans rfl
  have j8 := (cell_of_row _ _ 8 _ _ _ U3.out).trans rfl
  have j9 := (cell_of_row _ _ 9 _ _ _ U3.out).trans rfl
  have j10 := (cell_of_row _ _ 10 _ _ _ U3.out).trans rfl
  have j11 := (cell_of_row _ _ 11 _ _ _ U3.out).trans rfl
  have j12 := (cell_of_row _ _ 12 _ _ _ U3.out).trans rfl
  have j13 := (cell_of_row _ _ 13 _ _ _ U3.out).trans rfl
  go_wp2_with (go_at_call 48; refine (eq_Events es hes _ _ _ (HA5.out.on K3.out) (HB5.out.on K3.out)).mono ?_; rintro e w4 ⟨rfl, hb4⟩; refine Hid.out ?_)
  refine hid ?_
  have K4 := hid (K3.out.trans (hb4.mono K3.out.size))
  have V4 := hid ((hb4.block w.heap.size (by omega)).trans V3.out)
  have U4 := hid ((hb4.block (w.heap.size + 1) (by omega)).trans U3.out)
  have hz4 := hb4.size
  clear k0 k1 k2 k3 k4 k5 k6 k7 k8 k9 k10 k11 k12 k13 j0 j1 j2 j3 j4 j5 j6 j7 j8 j9 j10 j11 j12 j13
  clear hb4
  have k0 := (cell_of_row _ _ 0 _ _ _ V4.out).trans rfl
  have k1 := (cell_of_row _ _ 1 _ _ _ V4.out).trans rfl
  have k2 := (cell_of_row _ _ 2 _ _ _ V4.out).trans rfl
  have k3 := (cell_of_row _ _ 3 _ _ _ V4.out).trans rfl
  have k4 := (cell_of_row _ _ 4 _ _ _ V4.out).trans rfl
  have k5 := (cell_of_row _ _ 5 _ _ _ V4.out).trans rfl
  have k6 := (cell_of_row _ _ 6 _ _ _ V4.out).trans rfl
  have k7 := (cell_of_row _ _ 7 _ _ _ V4.out).trans rfl
  have k8 := (cell_of_row _ _ 8 _ _ _ V4.out).trans rfl
  have k9 := (cell_of_row _ _ 9 _ _ _ V4.out).trans rfl
  have k10 := (cell_of_row _ _ 10 _ _ _ V4.out).trans rfl
  have k11 := (cell_of_row _ _ 11 _ _ _ V4.out).trans rfl
  have k12 := (cell_of_row _ _ 12 _ _ _ V4.out).trans rfl
  have k13 := (cell_of_row _ _ 13 _ _ _ V4.out).trans rfl
  have j0 := (cell_of_row _ _ 0 _ _ _ U4.out).trans rfl
  have j1 := (cell_of_row _ _ 1 _ _ _ U4.out).trans rfl
  have j2 := (cell_of_row _ _ 2 _ _ _ U4.out).trans rfl
  have j3 := (cell_of_row _ _ 3 _ _ _ U4.out).trans rfl
  have j4 := (cell_of_row _ _ 4 _ _ _ U4.out).trans rfl
  have j5 := (cell_of_row _ _ 5 _ _ _ U4.out).trans rfl
  have j6 := (cell_of_row _ _ 6 _ _ _ U4.out).trans rfl
  have j7 := (cell_of_row _ _ 7 _ _ _ U4.out).trans rfl
  have j8 := (cell_of_row _ _ 8 _ _ _ U4.out).trans rfl
  have j9 := (cell_of_row _ _ 9 _ _ _ U4.out).trans rfl
  have j10 := (cell_of_row _ _ 10 _ _ _ U4.out).trans rfl
  have j11 := (cell_of_row _ _ 11 _ _ _ U4.out).trans rfl
  have j12 := (cell_of_row _ _ 12 _ _ _ U4.out).trans rfl
  have j13 := (cell_of_row _ _ 13 _ _ _ U4.out).trans rfl
  go_wp2
  go_ret
  exact ⟨rfl, K4.out⟩

end Go.Proofs.YtnkaabgjfdbdoaaGreatDoor
