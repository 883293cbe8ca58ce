/- Marks in a Device of which only the Root's words lie in memory. Written by a program of ours. -/
import Derived.Test.YtnlnfjchnjdfoaaDoorDevHelp
namespace Go.Proofs.YtnlnfjchnjdfoaaDoor
open Go.RowKit
open Go.Lib (hid)

theorem grown_none {v w : World} (h : v.grownBy w none) : Below v.heap.size v w := ⟨h.os, h.tape, h.output, h.size, fun k hk => h.block k hk (by simp)⟩

theorem mark_Seal0 (k : Nat) (h0 : 0 < k) (hk : k ≤ 1000000000) (w : World) :
    Calls Tryd.prog 133 #[.slice none 0 0, .int .i64 k] w fun e w' => e = .returned (.int .i64 k) ∧ Below w.heap.size w w' :=
  (mark_Seals [] k h0 (by simpa using hk) 0 _ w (World.ownsRow_nil w 0 66 4)).mono fun _ _ ⟨he, hg, _⟩ => ⟨he, grown_none hg⟩

theorem held_Seal0 (k : Nat) (h0 : 0 < k) (hk : k ≤ 1000000000) (w : World) :
    Calls Tryd.prog 134 #[.slice none 0 0, .int .i64 k] w fun e w' => e = .returned (.int .i64 k) ∧ Below w.heap.size w w' :=
  (held_Seals k 0 h0 (by simpa using hk) _ w (row_nil encSeal 4 w)).mono fun _ _ ⟨he, hb⟩ => ⟨he, hb⟩

theorem mark_Image0 (k : Nat) (h0 : 0 < k) (hk : k ≤ 1000000000) (w : World) :
    Calls Tryd.prog 92 #[.slice none 0 0, .int .i64 k] w fun e w' => e = .returned (.int .i64 k) ∧ Below w.heap.size w w' :=
  (mark_Images [] k h0 (by simpa using hk) 0 _ w (World.ownsRow_nil w 0 61 2)).mono fun _ _ ⟨he, hg, _⟩ => ⟨he, grown_none hg⟩

theorem held_Image0 (k : Nat) (h0 : 0 < k) (hk : k ≤ 1000000000) (w : World) :
    Calls Tryd.prog 94 #[.slice none 0 0, .int .i64 k] w fun e w' => e = .returned (.int .i64 k) ∧ Below w.heap.size w w' :=
  (held_Images k 0 h0 (by simpa using hk) _ w (row_nil encImage 2 w)).mono fun _ _ ⟨he, hb⟩ => ⟨he, hb⟩

theorem mark_Event0 (k : Nat) (h0 : 0 < k) (hk : k ≤ 1000000000) (w : World) :
    Calls Tryd.prog 24 #[.slice none 0 0, .int .i64 k] w fun e w' => e = .returned (.int .i64 k) ∧ Below w.heap.size w w' :=
  (mark_Events [] k h0 (by simpa using hk) 0 _ w (World.ownsRow_nil w 0 82 2)).mono fun _ _ ⟨he, hg, _⟩ => ⟨he, grown_none hg⟩

theorem held_Event0 (k : Nat) (h0 : 0 < k) (hk : k ≤ 1000000000) (w : World) :
    Calls Tryd.prog 95 #[.slice none 0 0, .int .i64 k] w fun e w' => e = .returned (.int .i64 k) ∧ Below w.heap.size w w' :=
  (held_Events k 0 h0 (by simpa using hk) _ w (row_nil encEvent 2 w)).mono fun _ _ ⟨he, hb⟩ => ⟨he, hb⟩

theorem mark_vault0 (k : Nat) (h0 : 0 < k) (hk : k ≤ 1000000000) (w : World) :
    Calls Tryd.prog 91 #[.agg #[.slice none 0 0, .int .i64 0, .int .i64 0, .int .i64 0, .string ⟨#[]⟩, .string ⟨#[]⟩], .int .i64 k] w fun e w' => e = .returned (.int .i64 k) ∧ Below w.heap.size w w' := by
  have HW : Hid (Below w.heap.size w (w.alloc (.cells #[.slice none 0 0, .int .i64 0, .int .i64 0, .int .i64 0, .string ⟨#[]⟩, .string ⟨#[]⟩] 68))) := hid ((Below.refl _ _).alloc (Nat.le_refl _) _)
  have hk2 : ¬ (k : Int) < 0 := by omega
  have CM := hid (fun W => mark_Seal0 k h0 hk W)
  go_enter Tryd.func91, Tryd.ntmps91
  go_wp2_with (go_at_call 133; refine (CM.out _).mono ?_; rintro e w1 ⟨rfl, hb1⟩; refine Hid.out ?_)
  refine hid ?_
  have HB1 := hid (HW.out.trans (hb1.mono HW.out.size))
  clear hb1
  go_wp2
  go_ret
  exact ⟨rfl, HB1.out⟩

theorem held_vault0 (k : Nat) (h0 : 0 < k) (hk : k ≤ 1000000000) (w : World) :
    Calls Tryd.prog 93 #[.agg #[.slice none 0 0, .int .i64 0, .int .i64 0, .int .i64 0, .string ⟨#[]⟩, .string ⟨#[]⟩], .int .i64 k] w fun e w' => e = .returned (.int .i64 k) ∧ Below w.heap.size w w' := by
  have HW : Hid (Below w.heap.size w (w.alloc (.cells #[.slice none 0 0, .int .i64 0, .int .i64 0, .int .i64 0, .string ⟨#[]⟩, .string ⟨#[]⟩] 68))) := hid ((Below.refl _ _).alloc (Nat.le_refl _) _)
  have hk2 : ¬ (k : Int) < 0 := by omega
  have CM := hid (fun W => held_Seal0 k h0 hk W)
  go_enter Tryd.func93, Tryd.ntmps93
  go_wp2_with (go_at_call 134; refine (CM.out _).mono ?_; rintro e w1 ⟨rfl, hb1⟩; refine Hid.out ?_)
  refine hid ?_
  have HB1 := hid (HW.out.trans (hb1.mono HW.out.size))
  clear hb1
  go_wp2
  go_ret
  exact ⟨rfl, HB1.out⟩

set_option maxRecDepth 20000 in
set_option maxHeartbeats 2000000 in
theorem mark_device0 (name key : ByteArray) (s : Int) (l : List Int) (up : Bool) (k : Nat) (h0 : 0 < k) (hn : k + l.length ≤ 1000000000) (base : Nat) (a : Value) (w : World) (ha : w.ownsRow base 2 1 a l.length (ints l)) :
    Calls Tryd.prog 43 #[.agg #[.string name, .string key, .int .i64 s, a, .bool up, .slice none 0 0, .slice none 0 0, .int .i64 0, .int .i64 0, .int .i64 0, .string ⟨#[]⟩, .string ⟨#[]⟩, .slice none 0 0, .slice none 0 0], .int .i64 k] w fun e w' => e = .returned (.int .i64 ((k + l.length : Nat) : Int)) ∧ w.grownBy w' a.ownBlock ∧ w'.ownsRow base 2 1 a l.length (ints (imarks k l.length)) := by
  obtain ⟨p, c, rfl, _, _⟩ := row_in_own ha
  obtain ⟨W0, hW0⟩ : ∃ W0, W0 = w.alloc (.cells #[.string name, .string key, .int .i64 s, .slice p l.length c, .bool up, .slice none 0 0, .slice none 0 0, .int .i64 0, .int .i64 0, .int .i64 0, .string ⟨#[]⟩, .string ⟨#[]⟩, .slice none 0 0, .slice none 0 0] 71) := ⟨_, rfl⟩
  have hb0 : Below w.heap.size w W0 := by rw [hW0]; exact (Below.refl _ _).alloc (Nat.le_refl _) _
  have HB0 := hid hb0
  have HC0 : Hid (W0.heap[w.heap.size]? = some (.cells #[.string name, .string key, .int .i64 s, .slice p l.length c, .bool up, .slice none 0 0, .slice none 0 0, .int .i64 0, .int .i64 0, .int .i64 0, .string ⟨#[]⟩, .string ⟨#[]⟩, .slice none 0 0, .slice none 0 0] 71)) := hid (by rw [hW0]; exact heap_alloc_new _ _)
  have hz0 : w.heap.size < W0.heap.size := by rw [hW0]; simp
  have HLT := hid ha.lt
  have HA := hid (own_below ha hb0)
  have HW0 := hid hW0
  have CR := hid (fun W h => mark_root0 key s l up k h0 hn base (.slice p l.length c) W h)
  obtain ⟨j, hj⟩ : ∃ j, j = k + l.length := ⟨_, rfl⟩
  have hj0 : 0 < j := by omega
  have hjn : j ≤ 1000000000 := by omega
  rw [← hj] at CR
  rw [← hj]
  have CV := hid (fun W => mark_vault0 j hj0 hjn W)
  have CI := hid (fun W => mark_Image0 j hj0 hjn W)
  have CE := hid (fun W => mark_Event0 j hj0 hjn W)
  clear hW0 hb0 ha hj hn h0
  go_enter Tryd.func43, Tryd.ntmps43
  go_wp2_with (go_at_call 30; rw [← HW0.out]; refine (CR.out _ HA.out).mono ?_; rintro e w1 ⟨rfl, hg1, ho1⟩; refine Hid.out ?_)
  refine hid ?_
  have HG1 := hid (grown_trans (grown_below HB0.out) hg1)
  have HO1 := hid ho1
  have HC1 := hid ((hg1.block _ hz0 (fun e => by have := HLT.out _ e.symm; omega)).trans HC0.out)
  have hz1 := hg1.size
  clear hg1 ho1
  have k0 := (cell_of_row _ _ 0 _ _ _ HC1.out).trans rfl
  have k1 := (cell_of_row _ _ 1 _ _ _ HC1.out).trans rfl
  have k2 := (cell_of_row _ _ 2 _ _ _ HC1.out).trans rfl
  have k3 := (cell_of_row _ _ 3 _ _ _ HC1.out).trans rfl
  have k4 := (cell_of_row _ _ 4 _ _ _ HC1.out).trans rfl
  have k5 := (cell_of_row _ _ 5 _ _ _ HC1.out).trans rfl
  have k6 := (cell_of_row _ _ 6 _ _ _ HC1.out).trans rfl
  have k7 := (cell_of_row _ _ 7 _ _ _ HC1.out).trans rfl
  have k8 := (cell_of_row _ _ 8 _ _ _ HC1.out).trans rfl
  have k9 := (cell_of_row _ _ 9 _ _ _ HC1.out).trans rfl
  have k10 := (cell_of_row _ _ 10 _ _ _ HC1.out).trans rfl
  have k11 := (cell_of_row _ _ 11 _ _ _ HC1.out).trans rfl
  have k12 := (cell_of_row _ _ 12 _ _ _ HC1.out).trans rfl
  have k13 := (cell_of_row _ _ 13 _ _ _ HC1.out).trans rfl
  go_wp2_with (go_at_call 91; refine (CV.out _).mono ?_; rintro e w2 ⟨rfl, hb2⟩; refine Hid.out ?_)
  refine hid ?_
  have HG2 := hid (grown_trans HG1.out (grown_below hb2))
  have HO2 := hid (own_below HO1.out hb2)
  have HC2 := hid ((hb2.block w.heap.size (by omega)).trans HC1.out)
  have hz2 := hb2.size
  clear hb2
  clear k0 k1 k2 k3 k4 k5 k6 k7 k8 k9 k10 k11 k12 k13
  have k0 := (cell_of_row _ _ 0 _ _ _ HC2.out).trans rfl
  have k1 := (cell_of_row _ _ 1 _ _ _ HC2.out).trans rfl
  have k2 := (cell_of_row _ _ 2 _ _ _ HC2.out).trans rfl
  have k3 := (cell_of_row _ _ 3 _ _ _ HC2.out).trans rfl
  have k4 := (cell_of_row _ _ 4 _ _ _ HC2.out).trans rfl
  have k5 := (cell_of_row _ _ 5 _ _ _ HC2.out).trans rfl
  have k6 := (cell_of_row _ _ 6 _ _ _ HC2.out).trans rfl
  have k7 := (cell_of_row _ _ 7 _ _ _ HC2.out).trans rfl
  have k8 := (cell_of_row _ _ 8 _ _ _ HC2.out).trans rfl
  have k9 := (cell_of_row _ _ 9 _ _ _ HC2.out).trans rfl
  have k10 := (cell_of_row _ _ 10 _ _ _ HC2.out).trans rfl
  have k11 := (cell_of_row _ _ 11 _ _ _ HC2.out).trans rfl
  have k12 := (cell_of_row _ _ 12 _ _ _ HC2.out).trans rfl
  have k13 := (cell_of_row _ _ 13 _ _ _ HC2.out).trans rfl
  go_wp2_with (go_at_call 92; refine (CI.out _).mono ?_; rintro e w3 ⟨rfl, hb3⟩; refine Hid.out ?_)
  refine hid ?_
  have HG3 := hid (grown_trans HG2.out (grown_below hb3))
  have HO3 := hid (own_below HO2.out hb3)
  have HC3 := hid ((hb3.block w.heap.size (by omega)).trans HC2.out)
  have hz3 := hb3.size
  clear hb3
  clear k0 k1 k2 k3 k4 k5 k6 k7 k8 k9 k10 k11 k12 k13
  have k0 := (cell_of_row _ _ 0 _ _ _ HC3.out).trans rfl
  have k1 := (cell_of_row _ _ 1 _ _ _ HC3.out).trans rfl
  have k2 := (cell_of_row _ _ 2 _ _ _ HC3.out).trans rfl
  have k3 := (cell_of_row _ _ 3 _ _ _ HC3.out).trans rfl
  have k4 := (cell_of_row _ _ 4 _ _ _ HC3.out).trans rfl
  have k5 := (cell_of_row _ _ 5 _ _ _ HC3.out).trans rfl
  have k6 := (cell_of_row _ _ 6 _ _ _ HC3.out).trans rfl
  have k7 := (cell_of_row _ _ 7 _ _ _ HC3.out).trans rfl
  have k8 := (cell_of_row _ _ 8 _ _ _ HC3.out).trans rfl
  have k9 := (cell_of_row _ _ 9 _ _ _ HC3.out).trans rfl
  have k10 := (cell_of_row _ _ 10 _ _ _ HC3.out).trans rfl
  have k11 := (cell_of_row _ _ 11 _ _ _ HC3.out).trans rfl
  have k12 := (cell_of_row _ _ 12 _ _ _ HC3.out).trans rfl
  have k13 := (cell_of_row _ _ 13 _ _ _ HC3.out).trans rfl
  go_wp2_with (go_at_call 24; refine (CE.out _).mono ?_; rintro e w4 ⟨rfl, hb4⟩; refine Hid.out ?_)
  refine hid ?_
  have HG4 := hid (grown_trans HG3.out (grown_below hb4))
  have HO4 := hid (own_below HO3.out hb4)
  have HC4 := hid ((hb4.block w.heap.size (by omega)).trans HC3.out)
  have hz4 := hb4.size
  clear hb4
  clear k0 k1 k2 k3 k4 k5 k6 k7 k8 k9 k10 k11 k12 k13
  go_wp2
  go_ret
  exact ⟨rfl, HG4.out, HO4.out⟩

set_option maxRecDepth 20000 in
set_option maxHeartbeats 2000000 in
theorem held_device0 (name key : ByteArray) (s : Int) (up : Bool) (k n : Nat) (h0 : 0 < k) (hn : k + n ≤ 1000000000) (a : Value) (w : World) (ha : RowIn w a (imarks k n)) :
    Calls Tryd.prog 44 #[.agg #[.string name, .string key, .int .i64 s, a, .bool up, .slice none 0 0, .slice none 0 0, .int .i64 0, .int .i64 0, .int .i64 0, .string ⟨#[]⟩, .string ⟨#[]⟩, .slice none 0 0, .slice none 0 0], .int .i64 k] w fun e w' => e = .returned (.int .i64 ((k + n : Nat) : Int)) ∧ Below w.heap.size w w' := by
  have HA := hid ha
  have CR := hid (fun W h => held_root0 key s up k n h0 hn a W h)
  obtain ⟨p, c, rfl, _, _⟩ := ha
  rw [imarks_len] at *
  obtain ⟨W0, hW0⟩ : ∃ W0, W0 = w.alloc (.cells #[.string name, .string key, .int .i64 s, .slice p n c, .bool up, .slice none 0 0, .slice none 0 0, .int .i64 0, .int .i64 0, .int .i64 0, .string ⟨#[]⟩, .string ⟨#[]⟩, .slice none 0 0, .slice none 0 0] 71) := ⟨_, rfl⟩
  have HB0 : Hid (Below w.heap.size w W0) := hid (by rw [hW0]; exact (Below.refl _ _).alloc (Nat.le_refl _) _)
  have HC0 : Hid (W0.heap[w.heap.size]? = some (.cells #[.string name, .string key, .int .i64 s, .slice p n c, .bool up, .slice none 0 0, .slice none 0 0, .int .i64 0, .int .i64 0, .int .i64 0, .string ⟨#[]⟩, .string ⟨#[]⟩, .slice none 0 0, .slice none 0 0] 71)) := hid (by rw [hW0]; exact heap_alloc_new _ _)
  have hz0 : w.heap.size < W0.heap.size := by rw [hW0]; simp
  have HW0 := hid hW0
  obtain ⟨j, hj⟩ : ∃ j, j = k + n := ⟨_, rfl⟩
  have hj0 : 0 < j := by omega
  have hjn : j ≤ 1000000000 := by omega
  have hjz : ¬ (j : Int) < 0 := by omega
  rw [← hj] at CR
  rw [← hj]
  have CV := hid (fun W => held_vault0 j hj0 hjn W)
  have CI := hid (fun W => held_Image0 j hj0 hjn W)
  have CE := hid (fun W => held_Event0 j hj0 hjn W)
  clear hW0 hj hn h0
  go_enter Tryd.func44, Tryd.ntmps44
  go_wp2_with (go_at_call 31; rw [← HW0.out]; refine (CR.out _ (HA.out.on HB0.out)).mono ?_; rintro e w1 ⟨rfl, hb1⟩; refine Hid.out ?_)
  refine hid ?_
  have HB1 := hid (HB0.out.trans (hb1.mono HB0.out.size))
  have HC1 := hid ((hb1.block w.heap.size (by omega)).trans HC0.out)
  have hz1 := hb1.size
  clear hb1
  have k0 := (cell_of_row _ _ 0 _ _ _ HC1.out).trans rfl
  have k1 := (cell_of_row _ _ 1 _ _ _ HC1.out).trans rfl
  have k2 := (cell_of_row _ _ 2 _ _ _ HC1.out).trans rfl
  have k3 := (cell_of_row _ _ 3 _ _ _ HC1.out).trans rfl
  have k4 := (cell_of_row _ _ 4 _ _ _ HC1.out).trans rfl
  have k5 := (cell_of_row _ _ 5 _ _ _ HC1.out).trans rfl
  have k6 := (cell_of_row _ _ 6 _ _ _ HC1.out).trans rfl
  have k7 := (cell_of_row _ _ 7 _ _ _ HC1.out).trans rfl
  have k8 := (cell_of_row _ _ 8 _ _ _ HC1.out).trans rfl
  have k9 := (cell_of_row _ _ 9 _ _ _ HC1.out).trans rfl
  have k10 := (cell_of_row _ _ 10 _ _ _ HC1.out).trans rfl
  have k11 := (cell_of_row _ _ 11 _ _ _ HC1.out).trans rfl
  have k12 := (cell_of_row _ _ 12 _ _ _ HC1.out).trans rfl
  have k13 := (cell_of_row _ _ 13 _ _ _ HC1.out).trans rfl
  go_wp2_with (go_at_call 93; refine (CV.out _).mono ?_; rintro e w2 ⟨rfl, hb2⟩; refine Hid.out ?_)
  refine hid ?_
  have HB2 := hid (HB1.out.trans (hb2.mono HB1.out.size))
  have HC2 := hid ((hb2.block w.heap.size (by omega)).trans HC1.out)
  have hz2 := hb2.size
  clear hb2
  clear k0 k1 k2 k3 k4 k5 k6 k7 k8 k9 k10 k11 k12 k13
  have k0 := (cell_of_row _ _ 0 _ _ _ HC2.out).trans rfl
  have k1 := (cell_of_row _ _ 1 _ _ _ HC2.out).trans rfl
  have k2 := (cell_of_row _ _ 2 _ _ _ HC2.out).trans rfl
  have k3 := (cell_of_row _ _ 3 _ _ _ HC2.out).trans rfl
  have k4 := (cell_of_row _ _ 4 _ _ _ HC2.out).trans rfl
  have k5 := (cell_of_row _ _ 5 _ _ _ HC2.out).trans rfl
  have k6 := (cell_of_row _ _ 6 _ _ _ HC2.out).trans rfl
  have k7 := (cell_of_row _ _ 7 _ _ _ HC2.out).trans rfl
  have k8 := (cell_of_row _ _ 8 _ _ _ HC2.out).trans rfl
  have k9 := (cell_of_row _ _ 9 _ _ _ HC2.out).trans rfl
  have k10 := (cell_of_row _ _ 10 _ _ _ HC2.out).trans rfl
  have k11 := (cell_of_row _ _ 11 _ _ _ HC2.out).trans rfl
  have k12 := (cell_of_row _ _ 12 _ _ _ HC2.out).trans rfl
  have k13 := (cell_of_row _ _ 13 _ _ _ HC2.out).trans rfl
  go_wp2_with (go_at_call 94; refine (CI.out _).mono ?_; rintro e w3 ⟨rfl, hb3⟩; refine Hid.out ?_)
  refine hid ?_
  have HB3 := hid (HB2.out.trans (hb3.mono HB2.out.size))
  have HC3 := hid ((hb3.block w.heap.size (by omega)).trans HC2.out)
  have hz3 := hb3.size
  clear hb3
  clear k0 k1 k2 k3 k4 k5 k6 k7 k8 k9 k10 k11 k12 k13
  have k0 := (cell_of_row _ _ 0 _ _ _ HC3.out).trans rfl
  have k1 := (cell_of_row _ _ 1 _ _ _ HC3.out).trans rfl
  have k2 := (cell_of_row _ _ 2 _ _ _ HC3.out).trans rfl
  have k3 := (cell_of_row _ _ 3 _ _ _ HC3.out).trans rfl
  have k4 := (cell_of_row _ _ 4 _ _ _ HC3.out).trans rfl
  have k5 := (cell_of_row _ _ 5 _ _ _ HC3.out).trans rfl
  have k6 := (cell_of_row _ _ 6 _ _ _ HC3.out).trans rfl
  have k7 := (cell_of_row _ _ 7 _ _ _ HC3.out).trans rfl
  have k8 := (cell_of_row _ _ 8 _ _ _ HC3.out).trans rfl
  have k9 := (cell_of_row _ _ 9 _ _ _ HC3.out).trans rfl
  have k10 := (cell_of_row _ _ 10 _ _ _ HC3.out).trans rfl
  have k11 := (cell_of_row _ _ 11 _ _ _ HC3.out).trans rfl
  have k12 := (cell_of_row _ _ 12 _ _ _ HC3.out).trans rfl
  have k13 := (cell_of_row _ _ 13 _ _ _ HC3.out).trans rfl
  go_wp2_with (go_at_call 95; refine (CE.out _).mono ?_; rintro e w4 ⟨rfl, hb4⟩; refine Hid.out ?_)
  refine hid ?_
  have HB4 := hid (HB3.out.trans (hb4.mono HB3.out.size))
  have HC4 := hid ((hb4.block w.heap.size (by omega)).trans HC3.out)
  have hz4 := hb4.size
  clear hb4
  clear k0 k1 k2 k3 k4 k5 k6 k7 k8 k9 k10 k11 k12 k13
  go_wp2
  go_ret
  exact ⟨rfl, HB4.out⟩
end Go.Proofs.YtnlnfjchnjdfoaaDoor
