/- Same, Within, Sure, Fresh, Decay, times: the specification's and the program's. -/
import Derived.Test.YthpnlhbfginkjaaFloatBoth
namespace Go.Proofs.Ythpnlhbfginkjaa
open Go.RowKit
open Go.Lib (hid)

attribute [local go_sem] run_fadd run_fsub run_fmul run_fquo run_fbits run_ffrom

theorem in_anyF (n a b : Int) (w : World) :
    Calls Try.prog 41 #[.int .i64 n, .int .i64 a, .int .i64 b] w fun e w' => e = .returned (.bool (decide (a ≤ n ∧ n ≤ b))) ∧ w' = w := by
  by_cases h0 : a ≤ n
  · by_cases h1 : n ≤ b
    · go_enter Try.func41, Try.ntmps41
      go_wp2
      go_ret
      exact ⟨by simp [h0, h1], rfl⟩
    · go_enter Try.func41, Try.ntmps41
      go_wp2
      go_ret
      exact ⟨by simp [h1], rfl⟩
  · go_enter Try.func41, Try.ntmps41
    go_wp2
    go_ret
    exact ⟨by simp; omega, rfl⟩

/-- What a call answers that tells a number. -/
def FPost (o : Option Nat) (w : World) (e : Ending) (w' : World) : Prop := ∃ r, e = .returned (.float .f64 r) ∧ FS o r ∧ Below w.heap.size w w'

theorem below_fw {w w1 : World} (h : Below w.heap.size w w1) (op : BinOp) (x y : Nat) : Below w.heap.size w (fw op x y w1) := h.trans (fw_below op x y w1 _)
theorem times_calls {o1 o2 : Option Nat} {a b : Nat} (h1 : FS o1 a) (h2 : FS o2 b) (w : World) : Calls Try.prog 58 #[.float .f64 a, .float .f64 b] w (FPost (fop .mul o1 o2) w) := by
  unfold FPost
  go_enter Try.func58, Try.ntmps58
  go_wp2
  go_ret
  exact ⟨_, rfl, FS.op .mul h1 h2 w, fw_below _ _ _ _ _⟩

/-- What Within answers. -/
def witO (x low high : Nat) : Option Nat :=
  if nanB low = true ∨ nanB high = true ∨ FloatKind.f64.format.order low high = some .gt then none
  else if nanB x = true ∨ FloatKind.f64.format.order x low = some .lt then some low
  else if FloatKind.f64.format.order x high = some .gt then some high else some x

set_option maxHeartbeats 1000000 in
theorem within_impl (x low high : Nat) (w : World) : Calls Try.prog 24 #[.float .f64 x, .float .f64 low, .float .f64 high] w (FPost (witO x low high) w) := by
  unfold FPost
  cases h1 : nanB low with
  | true =>
    go_enter Try.func24, Try.ntmps24
    go_wp2_with (first | (go_at_call 36; refine (none_impl _).mono ?_; rintro e w2 ⟨rfl, rfl⟩) | (go_at_call 52; refine (nan_calls _ _).mono ?_; rintro e w' ⟨rfl, rfl⟩))
    go_ret
    exact ⟨_, rfl, by unfold witO; rw [if_pos (.inl h1)]; exact (by decide : nanB 9221120237041090561 = true), Below.refl _ _⟩
  | false =>
    cases h2 : nanB high with
    | true =>
      go_enter Try.func24, Try.ntmps24
      go_wp2_with (first | (go_at_call 36; refine (none_impl _).mono ?_; rintro e w2 ⟨rfl, rfl⟩) | (go_at_call 52; refine (nan_calls _ _).mono ?_; rintro e w' ⟨rfl, rfl⟩))
      go_ret
      exact ⟨_, rfl, by unfold witO; rw [if_pos (.inr (.inl h2))]; exact (by decide : nanB 9221120237041090561 = true), Below.refl _ _⟩
    | false =>
      by_cases h3 : FloatKind.f64.format.order low high = some .gt
      · go_enter Try.func24, Try.ntmps24
        go_wp2_with (first | (go_at_call 36; refine (none_impl _).mono ?_; rintro e w2 ⟨rfl, rfl⟩) | (go_at_call 52; refine (nan_calls _ _).mono ?_; rintro e w' ⟨rfl, rfl⟩))
        go_ret
        exact ⟨_, rfl, by unfold witO; rw [if_pos (.inr (.inr h3))]; exact (by decide : nanB 9221120237041090561 = true), Below.refl _ _⟩
      · have HO : Hid (witO x low high = if nanB x = true ∨ FloatKind.f64.format.order x low = some .lt then some low else if FloatKind.f64.format.order x high = some .gt then some high else some x) := hid (by unfold witO; rw [if_neg (by rw [h1, h2]; simp [h3])])
        have e3 : (FloatKind.f64.format.order low high == some .gt) = false := by simpa using h3
        clear h3
        cases h4 : nanB x with
        | true =>
          go_enter Try.func24, Try.ntmps24
          go_wp2_with (first | (go_at_call 36; refine (none_impl _).mono ?_; rintro e w2 ⟨rfl, rfl⟩) | (go_at_call 52; refine (nan_calls _ _).mono ?_; rintro e w' ⟨rfl, rfl⟩))
          go_ret
          exact ⟨_, rfl, by rw [HO.out, if_pos (.inl h4)]; rfl, Below.refl _ _⟩
        | false =>
          by_cases h5 : FloatKind.f64.format.order x low = some .lt
          · go_enter Try.func24, Try.ntmps24
            go_wp2_with (first | (go_at_call 36; refine (none_impl _).mono ?_; rintro e w2 ⟨rfl, rfl⟩) | (go_at_call 52; refine (nan_calls _ _).mono ?_; rintro e w' ⟨rfl, rfl⟩))
            go_ret
            exact ⟨_, rfl, by rw [HO.out, if_pos (.inr h5)]; rfl, Below.refl _ _⟩
          · have e5 : (FloatKind.f64.format.order x low == some .lt) = false := by simpa using h5
            have HN := hid h5
            clear h5
            by_cases h6 : FloatKind.f64.format.order x high = some .gt
            · go_enter Try.func24, Try.ntmps24
              go_wp2_with (first | (go_at_call 36; refine (none_impl _).mono ?_; rintro e w2 ⟨rfl, rfl⟩) | (go_at_call 52; refine (nan_calls _ _).mono ?_; rintro e w' ⟨rfl, rfl⟩))
              go_ret
              exact ⟨_, rfl, by rw [HO.out, if_neg (by rw [h4]; simp [HN.out]), if_pos h6]; rfl, Below.refl _ _⟩
            · have e6 : (FloatKind.f64.format.order x high == some .gt) = false := by simpa using h6
              have HM := hid h6
              clear h6
              go_enter Try.func24, Try.ntmps24
              go_wp2_with (first | (go_at_call 36; refine (none_impl _).mono ?_; rintro e w2 ⟨rfl, rfl⟩) | (go_at_call 52; refine (nan_calls _ _).mono ?_; rintro e w' ⟨rfl, rfl⟩))
              go_ret
              exact ⟨_, rfl, by rw [HO.out, if_neg (by rw [h4]; simp [HN.out]), if_neg HM.out]; rfl, Below.refl _ _⟩
end Go.Proofs.Ythpnlhbfginkjaa
