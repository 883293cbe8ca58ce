/- The exact laws of Same, Known, Within, Sure, Fresh, Decay, walked. -/
import Derived.Test.YtcpbofgfnbiieaaFloatTwo
namespace Go.Proofs.Ytcpbofgfnbiieaa
open Go.RowKit
open Go.Lib (hid)

theorem float_lt {b : Nat} (h : (Lit.float .f64 b).wf = true) : b < 18446744073709551616 := by
  simp [Lit.wf] at h
  exact h

theorem law_within (x low high : Nat) (w : World) : Calls Try.prog 8 #[.float .f64 x, .float .f64 low, .float .f64 high] w fun e w' => e = .returned (.bool true) ∧ Below w.heap.size w w' := by
  go_enter Try.func8, Try.ntmps8
  go_wp2_with (first | (go_at_call 29; refine (within_spec x low high _).mono ?_; rintro e w1 ⟨r1, rfl, hh1, hb1⟩; have h1 := hid hh1; have b1 := hid hb1; clear hh1 hb1) | (go_at_call 30; refine (within_impl x low high _).mono ?_; rintro e w2 ⟨r2, rfl, hh2, hb2⟩; have h2 := hid hh2; have b2 := hid hb2; clear hh2 hb2) | (go_at_call 23; refine (same_float h2.out h1.out _).mono ?_; rintro e wq ⟨rfl, eq⟩; rw [eq]; clear eq wq))
  go_ret
  exact ⟨rfl, b1.out.trans (b2.out.mono b1.out.size)⟩

theorem law_sure (good all : Int) (w : World) : Calls Try.prog 9 #[.int .i64 good, .int .i64 all] w fun e w' => e = .returned (.bool true) ∧ Below w.heap.size w w' := by
  go_enter Try.func9, Try.ntmps9
  go_wp2_with (first | (go_at_call 31; refine (sure_spec good all _).mono ?_; rintro e w1 ⟨r1, rfl, hh1, hb1⟩; have h1 := hid hh1; have b1 := hid hb1; clear hh1 hb1) | (go_at_call 32; refine (sure_impl good all _).mono ?_; rintro e w2 ⟨r2, rfl, hh2, hb2⟩; have h2 := hid hh2; have b2 := hid hb2; clear hh2 hb2) | (go_at_call 23; refine (same_float h2.out h1.out _).mono ?_; rintro e wq ⟨rfl, eq⟩; rw [eq]; clear eq wq))
  go_ret
  exact ⟨rfl, b1.out.trans (b2.out.mono b1.out.size)⟩

theorem law_decay (x : Nat) (n : Int) (w : World) : Calls Try.prog 7 #[.float .f64 x, .int .i64 n] w fun e w' => e = .returned (.bool true) ∧ Below w.heap.size w w' := by
  go_enter Try.func7, Try.ntmps7
  go_wp2_with (first | (go_at_call 27; refine (decay_spec x n _).mono ?_; rintro e w1 ⟨r1, rfl, hh1, hb1⟩; have h1 := hid hh1; have b1 := hid hb1; clear hh1 hb1) | (go_at_call 28; refine (decay_impl x n _).mono ?_; rintro e w2 ⟨r2, rfl, hh2, hb2⟩; have h2 := hid hh2; have b2 := hid hb2; clear hh2 hb2) | (go_at_call 23; refine (same_float h2.out h1.out _).mono ?_; rintro e wq ⟨rfl, eq⟩; rw [eq]; clear eq wq))
  go_ret
  exact ⟨rfl, b1.out.trans (b2.out.mono b1.out.size)⟩

theorem law_fresh (born now most : Nat) (w : World) : Calls Try.prog 12 #[.float .f64 born, .float .f64 now, .float .f64 most] w fun e w' => e = .returned (.bool true) ∧ Below w.heap.size w w' := by
  go_enter Try.func12, Try.ntmps12
  go_wp2_with (first | (go_at_call 38; refine (fresh_spec born now most _).mono ?_; rintro e w1 ⟨rfl, hb1⟩; have b1 := hid hb1; clear hb1) | (go_at_call 39; refine (fresh_impl born now most _).mono ?_; rintro e w2 ⟨rfl, hb2⟩; have b2 := hid hb2; clear hb2))
  go_ret
  exact ⟨rfl, b1.out.trans (b2.out.mono b1.out.size)⟩

theorem law_known (x : Nat) (hx : x < 18446744073709551616) (w : World) : Calls Try.prog 4 #[.float .f64 x] w fun e w' => e = .returned (.bool true) ∧ Below w.heap.size w w' := by
  go_enter Try.func4, Try.ntmps4
  go_wp2_with (first | (go_at_call 17; refine (known_spec x _).mono ?_; rintro e w1 ⟨rfl, hb1⟩; have b1 := hid hb1; clear hb1) | (go_at_call 18; refine (known_impl x hx _).mono ?_; rintro e wq ⟨rfl, eq⟩; rw [eq]; clear eq wq))
  go_ret
  exact ⟨rfl, b1.out⟩

theorem law_same (a b : Nat) (ha : a < 18446744073709551616) (hb : b < 18446744073709551616) (w : World) : Calls Try.prog 3 #[.float .f64 a, .float .f64 b] w fun e w' => e = .returned (.bool true) ∧ Below w.heap.size w w' := by
  go_enter Try.func3, Try.ntmps3
  go_wp2_with (first | (go_at_call 15; refine (same_spec a b ha hb _).mono ?_; rintro e wq ⟨rfl, eq⟩; rw [eq]; clear eq wq) | (go_at_call 16; refine (same_impl a b _).mono ?_; rintro e wq ⟨rfl, eq⟩; rw [eq]; clear eq wq))
  go_ret
  exact ⟨rfl, Below.refl _ _⟩

end Go.Proofs.Ytcpbofgfnbiieaa
