/- A Root that is not up, marked and held: its words alone. -/
import Derived.Test.YtphabggmbdpibaaDoorRootHelp2
import Derived.Test.YtphabggmbdpibaaDoorMarks
namespace Go.Proofs.YtphabggmbdpibaaDoor
open Go.RowKit
open Go.Lib (hid)

theorem texts_nil (w : World) : TextsAt w (.slice none 0 0) [] := ⟨none, 0, rfl, fun h => absurd rfl h⟩

set_option maxRecDepth 20000 in
set_option maxHeartbeats 1000000 in
theorem mark_root0 (key : ByteArray) (s : Int) (l : List Int) (up : Bool) (k : Nat) (h0 : 0 < k) (hn : k + l.length ≤ 1000000000) (base : Nat) (a : Value) (w : World) (ha : w.ownsRow base 2 1 a l.length (ints l)) :
    Calls Tryd.prog 15 #[.agg #[.string key, .int .i64 s, a, .bool up, .slice none 0 0], .int .i64 k] w fun e w' => e = .returned (.int .i64 ((k + l.length : Nat) : Int)) ∧ w.grownBy w' a.ownBlock ∧ w'.ownsRow base 2 1 a l.length (ints (imarks k l.length)) := by
  obtain ⟨p, c, rfl, _, _⟩ := row_in_own ha
  obtain ⟨W0, hW0⟩ : ∃ W0, W0 = w.alloc (.cells #[.string key, .int .i64 s, .slice p l.length c, .bool up, .slice none 0 0] 31) := ⟨_, rfl⟩
  have HB0 : Hid (Below w.heap.size w W0) := hid (by rw [hW0]; exact (Below.refl _ _).alloc (Nat.le_refl _) _)
  have HC0 : Hid (W0.heap[w.heap.size]? = some (.cells #[.string key, .int .i64 s, .slice p l.length c, .bool up, .slice none 0 0] 31)) := hid (by rw [hW0]; exact heap_alloc_new _ _)
  have hz0 : w.heap.size < W0.heap.size := by rw [hW0]; simp
  have HW0 := hid hW0
  have HA := hid (own_below ha HB0.out)
  have HLT := hid ha.lt
  have CM := hid (fun (j : Nat) (h : 0 < j) (hj : j ≤ 1000000000) (W : World) => mark_calls [] j h hj 0 (.slice none 0 0) W (World.ownsRow_nil _ _ _ _))
  have CV := hid (fun W h => mark_nv s l k hn base (.slice p l.length c) W h)
  obtain ⟨j, hj⟩ : ∃ j, j = k + l.length := ⟨_, rfl⟩
  have hj0 : 0 < j := by omega
  have hj1 : j ≤ 1000000000 := by omega
  rw [← hj] at CV
  rw [← hj]
  clear hW0 ha hj hn h0
  go_enter Tryd.func15, Tryd.ntmps15
  go_wp2_with (go_at_call 59; rw [← HW0.out]; refine (CV.out _ HA.out).mono ?_; rintro e w1 ⟨rfl, hg1, ho1⟩; refine Hid.out ?_)
  refine hid ?_
  have HG1 := hid hg1
  have HO1 := hid ho1
  have HC1 := hid ((hg1.block _ hz0 (fun e => by have := HLT.out _ e.symm; omega)).trans HC0.out)
  obtain ⟨k0, k1, k2, k3, k4⟩ := five_cells HC1.out
  clear hg1 ho1
  go_wp2_with (go_at_call 60; refine (CM.out _ hj0 hj1 _).mono ?_; rintro e w2 ⟨rfl, hg2, _⟩; refine Hid.out ?_)
  refine hid ?_
  have HB2 : Hid (Below w1.heap.size w1 w2) := hid (grown_to hg2 (Nat.le_refl _) (fun k hk => by cases hk))
  clear hg2
  go_wp2
  go_ret
  exact ⟨rfl, grown_trans (grown_below HB0.out) (grown_trans HG1.out (grown_below HB2.out)), own_below HO1.out HB2.out⟩

set_option maxRecDepth 20000 in
set_option maxHeartbeats 1000000 in
theorem held_root0 (key : ByteArray) (s : Int) (up : Bool) (k n : Nat) (h0 : 0 < k) (hn : k + n ≤ 1000000000) (a : Value) (w : World) (ha : RowIn w a (imarks k n)) :
    Calls Tryd.prog 16 #[.agg #[.string key, .int .i64 s, a, .bool up, .slice none 0 0], .int .i64 k] w fun e w' => e = .returned (.int .i64 ((k + n : Nat) : Int)) ∧ Below w.heap.size w w' := by
  have HA := hid ha
  obtain ⟨p, c, rfl, _, _⟩ := ha
  have CM := hid (fun (j : Nat) (h : 0 < j) (hj : j ≤ 1000000000) (W : World) => held_calls j 0 h hj (.slice none 0 0) W (texts_nil W))
  obtain ⟨W0, hW0⟩ : ∃ W0, W0 = w.alloc (.cells #[.string key, .int .i64 s, .slice p (imarks k n).length c, .bool up, .slice none 0 0] 31) := ⟨_, rfl⟩
  have HB0 : Hid (Below w.heap.size w W0) := hid (by rw [hW0]; exact (Below.refl _ _).alloc (Nat.le_refl _) _)
  have HC0 : Hid (W0.heap[w.heap.size]? = some (.cells #[.string key, .int .i64 s, .slice p (imarks k n).length c, .bool up, .slice none 0 0] 31)) := hid (by rw [hW0]; exact heap_alloc_new _ _)
  have hz0 : w.heap.size < W0.heap.size := by rw [hW0]; simp
  have HW0 := hid hW0
  have CV := hid (fun W h => held_nv s k n hn (.slice p (imarks k n).length c) W h)
  obtain ⟨j, hj⟩ : ∃ j, j = k + n := ⟨_, rfl⟩
  have hj0 : 0 < j := by omega
  have hj1 : j ≤ 1000000000 := by omega
  have hj2 : ¬ (j : Int) < 0 := by omega
  rw [← hj] at CV
  rw [← hj]
  clear hW0 hj hn h0
  go_enter Tryd.func16, Tryd.ntmps16
  go_wp2_with (go_at_call 61; rw [← HW0.out]; refine (CV.out _ (HA.out.on HB0.out)).mono ?_; rintro e w1 ⟨rfl, hb1⟩; refine Hid.out ?_)
  refine hid ?_
  have HB1 := hid (HB0.out.trans (hb1.mono HB0.out.size))
  have HC1 := hid ((hb1.block _ hz0).trans HC0.out)
  obtain ⟨k0, k1, k2, k3, k4⟩ := five_cells HC1.out
  clear hb1
  go_wp2_with (go_at_call 62; refine (CM.out _ hj0 hj1 _).mono ?_; rintro e w2 ⟨rfl, hb2⟩; refine Hid.out ?_)
  refine hid ?_
  have HB2 := hid (HB1.out.trans (hb2.mono HB1.out.size))
  clear hb2
  go_wp2
  go_ret
  exact ⟨rfl, HB2.out⟩
end Go.Proofs.YtphabggmbdpibaaDoor
