/- The small functions on floats, both sides': NaNs, known ones, signs, what is the same; the law's own sameFloat. -/
import Derived.Test.YthpnlhbfginkjaaProg
import Derived.Test.YthpnlhbfginkjaaFloatPlain
import Derived.WalkSpells
import Derived.WalkLawsBesides
import Derived.Laws.Externs
import Derived.Lib.Hide
import Derived.Deep.RegionWith
namespace Go.Proofs.Ythpnlhbfginkjaa
open Go.RowKit
open Go.Lib (hid)

attribute [local go_sem] run_fadd run_fsub run_fmul run_fquo

theorem run_fbits (x : Nat) (w : World) : (callFunc 97 #[.float .f64 x]).run Try.prog w = .ok (.value (.int .u64 x)) w := by
  rw [run_callFunc_extern (e := Extern.MathFloatBits.float64bits) Try.func97 (by kernel_rfl) (by kernel_rfl) (by kernel_rfl) (by kernel_rfl)]
  rfl

theorem run_ffrom (x : Int) (w : World) : (callFunc 68 #[.int .u64 x]).run Try.prog w = .ok (.value (.float .f64 x.toNat)) w := by
  rw [run_callFunc_extern (e := Extern.MathFloatBits.float64frombits) Try.func68 (by kernel_rfl) (by kernel_rfl) (by kernel_rfl) (by kernel_rfl)]
  rfl

attribute [local go_sem] run_fbits run_ffrom

theorem nan_calls (x : Nat) (w : World) : Calls Try.prog 52 #[.float .f64 x] w fun e w' => e = .returned (.bool (nanB x)) ∧ w' = w := by
  cases h : nanB x with
  | true =>
    have h1 := ord_nan h x
    go_enter Try.func52, Try.ntmps52
    go_wp2
    go_ret
    exact ⟨rfl, rfl⟩
  | false =>
    have h1 := ord_self h
    go_enter Try.func52, Try.ntmps52
    go_wp2
    go_ret
    exact ⟨rfl, rfl⟩

theorem none_spec (w : World) : Calls Try.prog 33 #[] w fun e w' => ∃ r, e = .returned (.float .f64 r) ∧ nanB r = true ∧ Below w.heap.size w w' := by
  go_enter Try.func33, Try.ntmps33
  go_wp2
  go_ret
  exact ⟨_, rfl, fb_none (by decide) _, fw_below _ _ _ _ _⟩

theorem none_impl (w : World) : Calls Try.prog 36 #[] w fun e w' => e = .returned (.float .f64 9221120237041090561) ∧ w' = w := by
  go_enter Try.func36, Try.ntmps36
  go_wp2
  go_ret
  exact ⟨rfl, rfl⟩

theorem same_float {o : Option Nat} {a b : Nat} (ha : FS o a) (hb : FS o b) (w : World) :
    Calls Try.prog 12 #[.float .f64 a, .float .f64 b] w fun e w' => e = .returned (.bool true) ∧ w' = w := by
  rcases ha.both hb with h | ⟨h1, h2⟩
  · subst h
    cases hn : nanB a with
    | true =>
      have h1 := ord_nan hn a
      go_enter Try.func12, Try.ntmps12
      go_wp2
      go_ret
      exact ⟨rfl, rfl⟩
    | false =>
      have h1 := ord_self hn
      by_cases hz : FloatKind.f64.format.order a 0 = some .eq
      · have h3 := one_by ((zero_iff hn).1 hz)
        have h4 := fb_some h3
        have h5 := fw_some h3
        generalize (if sgn a then 18442240474082181120 else 9218868437227405312) = q at *
        clear h3
        go_enter Try.func12, Try.ntmps12
        go_wp2
        go_ret
        exact ⟨by simp, rfl⟩
      · have hz2 : (FloatKind.f64.format.order a 0 == some .eq) = false := by simpa using hz
        clear hz
        go_enter Try.func12, Try.ntmps12
        go_wp2
        go_ret
        exact ⟨by simp, rfl⟩
  · have h3 := ord_nan h1 a
    have h4 := ord_nan h2 b
    go_enter Try.func12, Try.ntmps12
    go_wp2
    go_ret
    exact ⟨rfl, rfl⟩

theorem bits_clear (x : Nat) (hx : x < 18446744073709551616) : bits BinOp.andNot IntKind.u64 (x : Int) 9223372036854775808 = (rg x : Int) := by
  have h1 : BitVec.ofInt 64 (x : Int) = BitVec.ofNat 64 x := by simp
  have h2 : bits BinOp.andNot IntKind.u64 (x : Int) 9223372036854775808 = IntKind.u64.wrap ((BitVec.ofNat 64 x &&& ~~~ BitVec.ofInt 64 9223372036854775808).toNat : Int) := by rw [← h1]; rfl
  have h3 : ~~~ BitVec.ofInt 64 9223372036854775808 = BitVec.ofNat 64 (2 ^ 63 - 1) := by decide
  rw [h2, h3, BitVec.toNat_and, BitVec.toNat_ofNat, BitVec.toNat_ofNat, Nat.mod_eq_of_lt (a := x) hx, Nat.mod_eq_of_lt (a := 2 ^ 63 - 1) (by decide), Nat.and_two_pow_sub_one_eq_mod]
  have h4 : x % 2 ^ 63 < 2 ^ 63 := Nat.mod_lt _ (by decide)
  rw [IntKind.wrap_u64]
  unfold rg
  omega

theorem abs_calls (x : Nat) (hx : x < 18446744073709551616) (w : World) : Calls Try.prog 91 #[.float .f64 x] w fun e w' => e = .returned (.float .f64 (rg x)) ∧ w' = w := by
  have h := bits_clear x hx
  go_enter Try.func91, Try.ntmps91
  go_wp2
  go_ret
  exact ⟨rfl, rfl⟩

theorem rg_lt (x : Nat) : rg x < 9223372036854775808 := Nat.mod_lt _ (by decide)

theorem rg_rg (x : Nat) : rg (rg x) = rg x := Nat.mod_mod _ _

theorem inf_ord {x : Nat} (h : nanB x = false) : (FloatKind.f64.format.order (rg x) 9218868437227405311 == some .gt) = !finB x := by
  have h1 : nanB (rg x) = false := by unfold nanB at *; rw [rg_rg]; exact h
  rw [f64_format, order_key h1 (by decide)]
  have h2 : fkey (rg x) = (rg x : Int) := by
    unfold fkey
    have hs : sgn (rg x) = false := by
      unfold sgn
      rw [Nat.div_eq_of_lt (rg_lt x)]
      rfl
    rw [hs, rg_rg]
    rfl
  have h3 : fkey 9218868437227405311 = 9218868437227405311 := by decide
  rw [h2, h3]
  cases hf : finB x with
  | true =>
    unfold finB at hf
    have hf := of_decide_eq_true hf
    rcases Int.lt_trichotomy (rg x : Int) 9218868437227405311 with g | g | g
    · rw [cmp_lt g]; rfl
    · rw [cmp_eq g]; rfl
    · omega
  | false =>
    unfold finB at hf
    have hf := of_decide_eq_false hf
    rw [cmp_gt (by omega)]
    rfl

theorem inf_calls (x : Nat) (hx : x < 18446744073709551616) (hn : nanB x = false) (w : World) : Calls Try.prog 69 #[.float .f64 x, .int .i64 0] w fun e w' => e = .returned (.bool !finB x) ∧ w' = w := by
  have h := inf_ord hn
  go_enter Try.func69, Try.ntmps69
  go_wp2_with (go_at_call 91; refine (abs_calls x hx _).mono ?_; rintro e w' ⟨rfl, rfl⟩)
  go_ret
  exact ⟨by rw [← h]; rfl, rfl⟩

theorem nan_notfin {x : Nat} (h : nanB x = true) : finB x = false := by
  unfold nanB at h
  unfold finB
  have h := of_decide_eq_true h
  exact decide_eq_false (by omega)

theorem known_impl (x : Nat) (hx : x < 18446744073709551616) (w : World) : Calls Try.prog 37 #[.float .f64 x] w fun e w' => e = .returned (.bool (finB x)) ∧ w' = w := by
  have CN := fun W => nan_calls x W
  cases hn : nanB x with
  | true =>
    have hf := nan_notfin hn
    rw [hn] at CN
    go_enter Try.func37, Try.ntmps37
    go_wp2_with (go_at_call 52; refine (CN _).mono ?_; rintro e w' ⟨rfl, rfl⟩)
    go_ret
    exact ⟨by rw [hf]; rfl, rfl⟩
  | false =>
    rw [hn] at CN
    have CI := fun W => inf_calls x hx hn W
    go_enter Try.func37, Try.ntmps37
    go_wp2_with (first | (go_at_call 52; refine (CN _).mono ?_; rintro e w' ⟨rfl, rfl⟩) | (go_at_call 69; refine (CI _).mono ?_; rintro e w' ⟨rfl, rfl⟩))
    go_ret
    exact ⟨by simp, rfl⟩

/-- A number less itself. -/
theorem sub_self {x : Nat} : floatBits .sub .f64 x x = if finB x then some 0 else none := by
  cases hn : nanB x with
  | true => rw [bits_nan_left _ _ hn, nan_notfin hn]; rfl
  | false =>
    rcases fin_of hn with h | h
    · rw [h, if_pos rfl]
      obtain ⟨m, e, h1, _⟩ := read_fin h
      unfold floatBits
      rw [f64_format]
      show (Ieee.Datum.sum (Ieee.double.read x) (Ieee.double.read x).opposite).map _ = _
      rw [h1]
      have hz : ∀ k, Ieee.signed (sgn x) m k + Ieee.signed (!sgn x) m k = 0 := by
        intro k
        rw [signed_eq, signed_eq]
        cases sgn x <;> simp <;> omega
      show some (Ieee.double.write (.number _ (Int.natAbs _) _)) = _
      rw [hz]
      cases sgn x <;> rfl
    · have hf : finB x = false := by unfold finB; rw [h]; decide
      rw [hf, if_neg (by decide)]
      unfold floatBits
      rw [f64_format]
      show (Ieee.Datum.sum (Ieee.double.read x) (Ieee.double.read x).opposite).map _ = _
      rw [read_inf h]
      cases sgn x <;> rfl

theorem known_spec (x : Nat) (w : World) : Calls Try.prog 34 #[.float .f64 x] w fun e w' => e = .returned (.bool (finB x)) ∧ Below w.heap.size w w' := by
  cases hf : finB x with
  | true =>
    have h := sub_self (x := x)
    rw [hf, if_pos rfl] at h
    have h1 := fb_some h
    have h2 := fw_some h
    have h3 : FloatKind.f64.format.order 0 0 = some .eq := by decide
    clear h
    go_enter Try.func34, Try.ntmps34
    go_wp2
    go_ret
    exact ⟨rfl, Below.refl _ _⟩
  | false =>
    have h := sub_self (x := x)
    rw [hf, if_neg (by decide)] at h
    have h1 := fun W => ord_nan (fb_none h W) 0
    clear h
    go_enter Try.func34, Try.ntmps34
    go_wp2
    go_ret
    exact ⟨rfl, fw_below _ _ _ _ _⟩
end Go.Proofs.Ythpnlhbfginkjaa
