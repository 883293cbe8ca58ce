/- The law on ShownAt, walked: it answers true. -/
import Derived.Test.YtcpbofgfnbiieaaDriftBoth
namespace Go.Proofs.Ytcpbofgfnbiieaa
open Go.RowKit
open Go.Lib (hid)

theorem dcellL (w W : World) (x y : Nat) (h : Below (w.alloc (.cells #[.float .f64 x, .float .f64 y] 40)).heap.size (w.alloc (.cells #[.float .f64 x, .float .f64 y] 40)) W) : W.cell? ⟨w.heap.size, 0, none⟩ = some (.float .f64 x) ∧ W.cell? ⟨w.heap.size, 1, none⟩ = some (.float .f64 y) := dcell w W x y _ h

set_option maxRecDepth 20000 in
set_option maxHeartbeats 2000000 in
theorem law_shown (x y : Nat) (hx : x < 18446744073709551616) (hy : y < 18446744073709551616) (t : Int) (w : World) : Calls Try.prog 10 #[.agg #[.float .f64 x, .float .f64 y], .int .i64 t] w fun e w' => e = .returned (.bool true) ∧ Below w.heap.size w w' := by
  have CD := hid (fun W => to_Drift x y W)
  have CS := hid (fun W => shown_spec x y t W)
  have CI := hid (fun W => shown_impl x y hx hy t W)
  unfold FPost at CS CI
  generalize shownO x y t = o at *
  obtain ⟨W0, hW0⟩ : ∃ W, W = w.alloc (.cells #[.float .f64 x, .float .f64 y] 40) := ⟨_, rfl⟩
  have HC : Hid (∀ W, Below W0.heap.size W0 W → W.cell? ⟨w.heap.size, 0, none⟩ = some (.float .f64 x) ∧ W.cell? ⟨w.heap.size, 1, none⟩ = some (.float .f64 y)) := hid (by rw [hW0]; exact fun W h => dcellL w W x y h)
  have HB0 : Hid (Below w.heap.size w W0) := hid (by rw [hW0]; exact (Below.refl _ _).alloc (Nat.le_refl _) _)
  have HW := hid hW0
  obtain ⟨k0, k1⟩ := HC.out W0 (Below.refl _ _)
  clear hW0
  go_enter Try.func10, Try.ntmps10
  go_wp2_with (first | (go_at_call 34; rw [← HW.out]; refine (CD.out _).mono ?_; rintro e w1 ⟨rfl, hb1⟩; refine Hid.out ?_))
  refine hid ?_
  have HB1 := hid hb1
  clear hb1 k0 k1
  go_wp2_with (go_at_call 33; refine (CS.out _).mono ?_; rintro e w2 ⟨r2, rfl, hr2, hb2⟩; refine Hid.out ?_)
  refine hid ?_
  have HB2 := hid (dtr HB1.out hb2)
  have HR2 := hid hr2
  clear hb2 hr2 HB1
  obtain ⟨k0, k1⟩ := HC.out w2 HB2.out
  go_wp2_with (go_at_call 34; refine (CD.out _).mono ?_; rintro e w3 ⟨rfl, hb3⟩; refine Hid.out ?_)
  refine hid ?_
  have HB3 := hid (dtr HB2.out hb3)
  clear hb3 k0 k1 HB2
  go_wp2_with (go_at_call 35; refine (CI.out _).mono ?_; rintro e w4 ⟨r4, rfl, hr4, hb4⟩; refine Hid.out ?_)
  refine hid ?_
  have HB4 := hid (dtr HB3.out hb4)
  have HR4 := hid hr4
  clear hb4 hr4 HB3
  go_wp2_with (go_at_call 23; refine (same_float HR4.out HR2.out _).mono ?_; rintro e wq ⟨rfl, eq⟩; rw [eq]; clear eq wq)
  go_ret
  exact ⟨rfl, HB0.out.trans (HB4.out.mono HB0.out.size)⟩
end Go.Proofs.Ytcpbofgfnbiieaa
