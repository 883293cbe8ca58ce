/- The law on TickAt, walked: it answers true. -/
import Derived.Test.YtcpbofgfnbiieaaTickBoth
namespace Go.Proofs.Ytcpbofgfnbiieaa
open Go.RowKit
open Go.Lib (hid)

theorem dcellL (w W : World) (x y : Nat) (h : Below (w.alloc (.cells #[.float .f64 x, .float .f64 y] 40)).heap.size (w.alloc (.cells #[.float .f64 x, .float .f64 y] 40)) W) : W.cell? ⟨w.heap.size, 0, none⟩ = some (.float .f64 x) ∧ W.cell? ⟨w.heap.size, 1, none⟩ = some (.float .f64 y) := dcell w W x y _ h

set_option maxRecDepth 20000 in
set_option maxHeartbeats 2000000 in
theorem law_tickat (x y : Nat) (hx : x < 18446744073709551616) (hy : y < 18446744073709551616) (shown : Nat) (w : World) : Calls Try.prog 11 #[.agg #[.float .f64 x, .float .f64 y], .float .f64 shown] w fun e w' => e = .returned (.bool true) ∧ Below w.heap.size w w' := by
  have CD := hid (fun W => to_Drift x y W)
  have CS := hid (fun W => tickAt_spec x y shown W)
  have CI := hid (fun W => tickAt_impl x y hx hy shown W)
  unfold TickPost at CS CI
  obtain ⟨W0, hW0⟩ : ∃ W, W = w.alloc (.cells #[.float .f64 x, .float .f64 y] 40) := ⟨_, rfl⟩
  have HC : Hid (∀ W, Below W0.heap.size W0 W → W.cell? ⟨w.heap.size, 0, none⟩ = some (.float .f64 x) ∧ W.cell? ⟨w.heap.size, 1, none⟩ = some (.float .f64 y)) := hid (by rw [hW0]; exact fun W h => dcellL w W x y h)
  have HB0 : Hid (Below w.heap.size w W0) := hid (by rw [hW0]; exact (Below.refl _ _).alloc (Nat.le_refl _) _)
  have HW := hid hW0
  obtain ⟨k0, k1⟩ := HC.out W0 (Below.refl _ _)
  clear hW0
  go_enter Try.func11, Try.ntmps11
  go_wp2_with (first | (go_at_call 34; rw [← HW.out]; refine (CD.out _).mono ?_; rintro e w1 ⟨rfl, hb1⟩; refine Hid.out ?_))
  refine hid ?_
  have HB1 := hid hb1
  clear hb1 k0 k1
  go_wp2_with (go_at_call 36; refine (CS.out _).mono ?_; rintro e w2 ⟨j, rfl, hj, hb2⟩; refine Hid.out ?_)
  refine hid ?_
  have HB2 := hid (dtr HB1.out hb2)
  have HJ := hid hj
  clear hb2 hj HB1
  obtain ⟨k0, k1⟩ := HC.out w2 HB2.out
  go_wp2_with (go_at_call 34; refine (CD.out _).mono ?_; rintro e w3 ⟨rfl, hb3⟩; refine Hid.out ?_)
  refine hid ?_
  have HB3 := hid (dtr HB2.out hb3)
  clear hb3 k0 k1 HB2
  go_wp2_with (go_at_call 37; refine (CI.out _).mono ?_; rintro e w4 ⟨k, rfl, hk, hb4⟩; refine Hid.out ?_)
  refine hid ?_
  have HB4 := hid (dtr HB3.out hb4)
  obtain rfl : j = k := tick_one HJ.out hk
  clear hb4 hk HB3
  go_wp2
  go_ret
  exact ⟨rfl, HB0.out.trans (HB4.out.mono HB0.out.size)⟩
end Go.Proofs.Ytcpbofgfnbiieaa
