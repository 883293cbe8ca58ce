/- A Root marked whole: its words, then its registers. -/
import Derived.Test.YtphabggmbdpibaaDoorPackRoot
namespace Go.Proofs.YtphabggmbdpibaaDoor
open Go.RowKit
open Go.Lib (hid)

set_option maxRecDepth 20000 in
set_option maxHeartbeats 1000000 in
theorem mark_root (key : ByteArray) (s : Int) (l : List Int) (up : Bool) (ps : List (List UInt8)) (k : Nat) (h0 : 0 < k) (hn : k + l.length + ps.length ≤ 1000000000) (b1 b2 : Nat) (a1 a2 : Value) (w : World) (h1 : w.ownsRow b1 2 1 a1 l.length (ints l)) (h2 : w.ownsRow b2 9 1 a2 ps.length (strs ps))
    (hap : a2.ownBlock = none ∨ a2.ownBlock ≠ a1.ownBlock) (hap2 : a1.ownBlock = none ∨ a1.ownBlock ≠ a2.ownBlock) :
    Calls Tryd.prog 15 #[.agg #[.string key, .int .i64 s, a1, .bool up, a2], .int .i64 k] w fun e w' => e = .returned (.int .i64 ((k + l.length + ps.length : Nat) : Int)) ∧ (∃ wm, w.grownBy wm a1.ownBlock ∧ wm.grownBy w' a2.ownBlock) ∧ w'.ownsRow b1 2 1 a1 l.length (ints (imarks k l.length)) ∧ w'.ownsRow b2 9 1 a2 ps.length (strs (marks (k + l.length) ps.length)) := by
  obtain ⟨p, c, rfl, _, _⟩ := row_in_own h1
  obtain ⟨q, d, rfl, _⟩ := own_shape h2
  obtain ⟨W0, hW0⟩ : ∃ W0, W0 = w.alloc (.cells #[.string key, .int .i64 s, .slice p l.length c, .bool up, .slice q ps.length d] 31) := ⟨_, rfl⟩
  have HB0 : Hid (Below w.heap.size w W0) := hid (by rw [hW0]; exact (Below.refl _ _).alloc (Nat.le_refl _) _)
  have HC0 : Hid (W0.heap[w.heap.size]? = some (.cells #[.string key, .int .i64 s, .slice p l.length c, .bool up, .slice q ps.length d] 31)) := hid (by rw [hW0]; exact heap_alloc_new _ _)
  have hz0 : w.heap.size < W0.heap.size := by rw [hW0]; simp
  have HW0 := hid hW0
  have HA := hid (own_below h1 HB0.out)
  have HE := hid (own_below h2 HB0.out)
  have HLT := hid h1.lt
  have HAP := hid hap
  have HAQ := hid hap2
  have CV := hid (fun W h => mark_nv s l k (by omega) b1 (.slice p l.length c) W h)
  obtain ⟨j, hj⟩ : ∃ j, j = k + l.length := ⟨_, rfl⟩
  have hj0 : 0 < j := by omega
  have CM := hid (fun (W : World) h => mark_calls ps j hj0 (by omega) b2 (.slice q ps.length d) W h)
  rw [← hj] at CV
  rw [← hj]
  clear hW0 h1 h2 hj hn h0 hap hap2
  go_enter Tryd.func15, Tryd.ntmps15
  go_wp2_with (go_at_call 59; rw [← HW0.out]; refine (CV.out _ HA.out).mono ?_; rintro e w1 ⟨rfl, hg1, ho1⟩; refine Hid.out ?_)
  refine hid ?_
  have HG1 := hid hg1
  have HO1 := hid ho1
  have HE1 := hid (HE.out.kept hg1 HAP.out)
  have HC1 := hid ((hg1.block _ hz0 (fun e => by have := HLT.out _ e.symm; omega)).trans HC0.out)
  obtain ⟨k0, k1, k2, k3, k4⟩ := five_cells HC1.out
  clear hg1 ho1
  go_wp2_with (go_at_call 60; refine (CM.out _ HE1.out).mono ?_; rintro e w2 ⟨rfl, hg2, ho2⟩; refine Hid.out ?_)
  refine hid ?_
  have HG2 := hid hg2
  have HO2 := hid ho2
  clear hg2 ho2
  go_wp2
  go_ret
  exact ⟨rfl, ⟨w1, grown_trans (grown_below HB0.out) HG1.out, HG2.out⟩, HO1.out.kept HG2.out HAQ.out, HO2.out⟩
end Go.Proofs.YtphabggmbdpibaaDoor
