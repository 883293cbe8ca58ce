/- A Root of which words and registers bear marks, asked. -/
import Derived.Test.YtphabggmbdpibaaDoorRootMark
namespace Go.Proofs.YtphabggmbdpibaaDoor
open Go.RowKit
open Go.Lib (hid)

set_option maxRecDepth 20000 in
set_option maxHeartbeats 1000000 in
theorem held_root (key : ByteArray) (s : Int) (up : Bool) (k n q : Nat) (h0 : 0 < k) (hn : k + n + q ≤ 1000000000) (a1 a2 : Value) (w : World) (h1 : RowIn w a1 (imarks k n)) (h2 : TextsAt w a2 (marks (k + n) q)) :
    Calls Tryd.prog 16 #[.agg #[.string key, .int .i64 s, a1, .bool up, a2], .int .i64 k] w fun e w' => e = .returned (.int .i64 ((k + n + q : Nat) : Int)) ∧ Below w.heap.size w w' := by
  have CV := hid (fun W h => held_nv s k n (by omega) a1 W h)
  have CT := hid (fun (j : Nat) (hj0 : 0 < j) (hj : j + q ≤ 1000000000) W h => held_calls j q hj0 hj a2 W h)
  have H1 := hid h1
  have H2 := hid h2
  obtain ⟨p, c, rfl, _, _⟩ := h1
  obtain ⟨p2, c2, rfl, _⟩ := h2
  rw [imarks_len] at *
  rw [marks_len] at *
  obtain ⟨j, hj⟩ : ∃ j, j = k + n := ⟨_, rfl⟩
  have hj0 : 0 < j := by omega
  have hjq : j + q ≤ 1000000000 := by omega
  rw [← hj] at CV H2
  rw [← hj]
  have hjn : ¬ (j : Int) < 0 := by omega
  have hjn2 : ¬ ((j + q : Nat) : Int) < 0 := by omega
  obtain ⟨W0, hW0⟩ : ∃ W0, W0 = w.alloc (.cells #[.string key, .int .i64 s, .slice p n c, .bool up, .slice p2 q c2] 31) := ⟨_, rfl⟩
  have HB0 : Hid (Below w.heap.size w W0) := hid (by rw [hW0]; exact (Below.refl _ _).alloc (Nat.le_refl _) _)
  have HC0 : Hid (W0.heap[w.heap.size]? = some (.cells #[.string key, .int .i64 s, .slice p n c, .bool up, .slice p2 q c2] 31)) := hid (by rw [hW0]; exact heap_alloc_new _ _)
  have hz0 : w.heap.size < W0.heap.size := by rw [hW0]; simp
  have HW0 := hid hW0
  clear hW0 hj hn h0
  go_enter Tryd.func16, Tryd.ntmps16
  go_wp2_with (go_at_call 61; rw [← HW0.out]; refine (CV.out _ (H1.out.on HB0.out)).mono ?_; rintro e w1 ⟨rfl, hb1⟩; refine Hid.out ?_)
  refine hid ?_
  have HB1 := hid (HB0.out.trans (hb1.mono HB0.out.size))
  have HC1 := hid ((hb1.block _ hz0).trans HC0.out)
  obtain ⟨k0, k1, k2, k3, k4⟩ := five_cells HC1.out
  clear hb1
  go_wp2_with (go_at_call 62; refine (CT.out j hj0 hjq _ (H2.out.on HB1.out)).mono ?_; rintro e w2 ⟨rfl, hb2⟩; refine Hid.out ?_)
  refine hid ?_
  have HB2 := hid (HB1.out.trans (hb2.mono HB1.out.size))
  clear hb2
  go_wp2
  go_ret
  exact ⟨rfl, HB2.out⟩
end Go.Proofs.YtphabggmbdpibaaDoor
