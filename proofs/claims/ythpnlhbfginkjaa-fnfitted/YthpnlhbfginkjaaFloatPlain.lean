/- Floating point over exact whole numbers: comparisons are comparisons of keys; what an operation gives, and the world behind it; a number that is told or is some NaN. Plain. -/
import Derived.Laws.FloatArith
import Derived.Below
namespace Go.Proofs.Ythpnlhbfginkjaa
open Ieee
open Go.RowKit

theorem f64_format : FloatKind.f64.format = Ieee.double := rfl

theorem binade64 : Ieee.double.binade = 4503599627370496 := rfl
theorem sign64 : Ieee.double.signWeight = 9223372036854775808 := by decide
theorem inf64 : Ieee.double.infRung = 9218868437227405312 := by decide

/-- The magnitude of a rung, in units of the least place. -/
def vr (r : Nat) : Nat := if r < 4503599627370496 then r else (4503599627370496 + r % 4503599627370496) * 2 ^ (r / 4503599627370496 - 1)

theorem vr_next (r : Nat) : vr r < vr (r + 1) := by
  unfold vr
  by_cases h : r < 4503599627370496
  · rw [if_pos h]
    by_cases h1 : r + 1 < 4503599627370496
    · rw [if_pos h1]; omega
    · rw [if_neg h1]
      obtain rfl : r = 4503599627370495 := by omega
      decide
  · rw [if_neg h, if_neg (by omega)]
    obtain ⟨q, m, hm, rfl⟩ : ∃ q m, m < 4503599627370496 ∧ r = (q + 1) * 4503599627370496 + m := ⟨r / 4503599627370496 - 1, r % 4503599627370496, Nat.mod_lt _ (by decide), by have h1 := Nat.div_add_mod r 4503599627370496; have h2 : 1 ≤ r / 4503599627370496 := (Nat.le_div_iff_mul_le (by decide)).2 (by omega); rw [Nat.sub_add_cancel h2, Nat.mul_comm]; exact h1.symm⟩
    have e1 : ∀ p m : Nat, m < 4503599627370496 → (p * 4503599627370496 + m) % 4503599627370496 = m := fun p m hm => by rw [Nat.add_comm, Nat.add_mul_mod_self_right, Nat.mod_eq_of_lt hm]
    have e2 : ∀ p m : Nat, m < 4503599627370496 → (p * 4503599627370496 + m) / 4503599627370496 = p := fun p m hm => by rw [Nat.add_comm, Nat.add_mul_div_right _ _ (by decide), Nat.div_eq_of_lt hm, Nat.zero_add]
    rw [e1 _ _ hm, e2 _ _ hm, Nat.add_sub_cancel]
    by_cases h1 : m + 1 < 4503599627370496
    · rw [Nat.add_assoc, e1 _ _ h1, e2 _ _ h1, Nat.add_sub_cancel]
      exact Nat.mul_lt_mul_of_pos_right (by omega) (Nat.two_pow_pos _)
    · have e3 : (q + 1) * 4503599627370496 + m + 1 = (q + 1 + 1) * 4503599627370496 + 0 := by rw [Nat.add_mul (q + 1) 1]; omega
      rw [e3, e1 _ _ (by decide), e2 _ _ (by decide), Nat.add_sub_cancel, Nat.pow_succ, Nat.mul_comm (2 ^ q) 2, ← Nat.mul_assoc]
      exact Nat.mul_lt_mul_of_pos_right (by omega) (Nat.two_pow_pos _)

theorem vr_lt {a b : Nat} (h : a < b) : vr a < vr b := by
  induction b with
  | zero => omega
  | succ b ih =>
    rcases Nat.lt_or_ge a b with h1 | h1
    · exact Nat.lt_trans (ih h1) (vr_next b)
    · obtain rfl : a = b := by omega
      exact vr_next a

theorem vr_lt_iff {a b : Nat} : vr a < vr b ↔ a < b := by
  constructor
  · intro h
    rcases Nat.lt_trichotomy a b with h1 | h1 | h1
    · exact h1
    · subst h1; omega
    · have := vr_lt h1; omega
  · exact vr_lt

theorem vr_zero : vr 0 = 0 := rfl

/-- The sign bit and the rung of a word. -/
def sgn (x : Nat) : Bool := x / 9223372036854775808 % 2 == 1
def rg (x : Nat) : Nat := x % 9223372036854775808

/-- Is a word a NaN? -/
def nanB (x : Nat) : Bool := decide (9218868437227405312 < rg x)
def finB (x : Nat) : Bool := decide (rg x < 9218868437227405312)

/-- A number that rises as the words do. -/
def fkey (x : Nat) : Int := if sgn x then -(rg x : Int) else rg x

/-- Value of a number in units of the least place. -/
def ival (x : Nat) : Int := if sgn x then -(vr (rg x) : Int) else vr (rg x)

theorem read_nan {x : Nat} (h : nanB x = true) : ∃ f, Ieee.double.read x = .nan (sgn x) f := by
  unfold nanB at h
  have h := of_decide_eq_true h
  unfold Format.read
  rw [binade64, sign64, inf64]
  have h1 : ¬ rg x < 4503599627370496 := by omega
  have h2 : ¬ rg x < 9218868437227405312 := by omega
  have h3 : ¬ rg x = 9218868437227405312 := by omega
  unfold rg at h1 h2 h3
  simp only [h1, h2, h3, if_false]
  exact ⟨_, rfl⟩

theorem read_inf {x : Nat} (h : rg x = 9218868437227405312) : Ieee.double.read x = .infinity (sgn x) := by
  unfold Format.read
  rw [binade64, sign64, inf64]
  have h1 : ¬ rg x < 4503599627370496 := by omega
  have h2 : ¬ rg x < 9218868437227405312 := by omega
  unfold rg at h h1 h2
  simp only [h]
  rfl

theorem least64 : Ieee.double.leastPlace = -1074 := by decide

/-- A number: its digits and its place above the least one. -/
theorem read_fin {x : Nat} (h : finB x = true) : ∃ m e : Nat, Ieee.double.read x = .number (sgn x) m (-1074 + (e : Int)) ∧ m * 2 ^ e = vr (rg x) := by
  unfold finB at h
  have h := of_decide_eq_true h
  unfold Format.read
  rw [binade64, sign64, inf64, least64]
  by_cases h1 : rg x < 4503599627370496
  · refine ⟨rg x, 0, ?_, ?_⟩
    · unfold rg at h1 ⊢
      simp only [h1, if_true]
      rfl
    · unfold vr
      rw [if_pos h1]
      simp
  · refine ⟨4503599627370496 + rg x % 4503599627370496, rg x / 4503599627370496 - 1, ?_, ?_⟩
    · unfold rg at h h1 ⊢
      simp only [h, h1, if_true, if_false]
      rfl
    · unfold vr
      rw [if_neg h1]

theorem signed_eq (s : Bool) (m k : Nat) : signed s m k = if s then -((m * 2 ^ k : Nat) : Int) else ((m * 2 ^ k : Nat) : Int) := by
  unfold signed
  rw [Nat.shiftLeft_eq]

theorem compare_scale (a b : Int) (k : Nat) : compare (a * 2 ^ k) (b * 2 ^ k) = compare a b := by
  have hp : (0 : Int) < 2 ^ k := Int.pow_pos (by decide)
  simp only [compare, compareOfLessAndEq]
  have e1 : a * 2 ^ k < b * 2 ^ k ↔ a < b := ⟨fun h => Int.lt_of_mul_lt_mul_right h (Int.le_of_lt hp), fun h => Int.mul_lt_mul_of_pos_right h hp⟩
  have e2 : a * 2 ^ k = b * 2 ^ k ↔ a = b := ⟨fun h => Int.eq_of_mul_eq_mul_right (Int.ne_of_gt hp) h, fun h => by rw [h]⟩
  simp only [e1, e2]

theorem signed_scale (s : Bool) (m e b : Nat) (h : b ≤ e) : signed s m (e - b) * 2 ^ b = signed s m e := by
  rw [signed_eq, signed_eq]
  have : m * 2 ^ (e - b) * 2 ^ b = m * 2 ^ e := by rw [Nat.mul_assoc, ← Nat.pow_add, Nat.sub_add_cancel h]
  cases s
  · simp only [Bool.false_eq_true, if_false]
    rw [← this]; push_cast; rfl
  · simp only [if_true]
    rw [← this, Int.neg_mul]; push_cast; rfl

theorem compare_sign (s t : Bool) (a b : Nat) : compare (if s then -(vr a : Int) else vr a) (if t then -(vr b : Int) else vr b) = compare (if s then -(a : Int) else a) (if t then -(b : Int) else b) := by
  have h1 := @vr_lt_iff a b
  have h2 := @vr_lt_iff b a
  have h3 := @vr_lt_iff 0 a
  have h4 := @vr_lt_iff 0 b
  rw [vr_zero] at h3 h4
  simp only [compare, compareOfLessAndEq]
  cases s <;> cases t <;> simp only [if_true, if_false, Bool.false_eq_true] <;> (repeat' split) <;> first | rfl | (exfalso; omega)

theorem order_fin {x y : Nat} (hx : finB x = true) (hy : finB y = true) : Ieee.double.order x y = some (compare (fkey x) (fkey y)) := by
  obtain ⟨m, e, h1, h2⟩ := read_fin hx
  obtain ⟨n, f, g1, g2⟩ := read_fin hy
  unfold Format.order
  rw [h1, g1]
  show some (compare (signed (sgn x) m _) (signed (sgn y) n _)) = _
  have a1 : (-1074 + (e : Int) - min (-1074 + (e : Int)) (-1074 + (f : Int))).toNat = e - min e f := by omega
  have a2 : (-1074 + (f : Int) - min (-1074 + (e : Int)) (-1074 + (f : Int))).toNat = f - min e f := by omega
  rw [a1, a2, ← compare_scale _ _ (min e f), signed_scale _ _ _ _ (Nat.min_le_left _ _), signed_scale _ _ _ _ (Nat.min_le_right _ _), signed_eq, signed_eq, h2, g2, compare_sign]
  rfl

theorem compare_tt (s t : Bool) : compare t.toNat s.toNat = compare (if s then -(9218868437227405312 : Int) else 9218868437227405312) (if t then -(9218868437227405312 : Int) else 9218868437227405312) := by
  cases s <;> cases t <;> decide

theorem fin_of {x : Nat} (h : nanB x = false) : finB x = true ∨ rg x = 9218868437227405312 := by
  unfold nanB at h
  have h := of_decide_eq_false h
  unfold finB
  rcases Nat.lt_or_ge (rg x) 9218868437227405312 with h1 | h1
  · exact .inl (decide_eq_true h1)
  · exact .inr (by omega)

theorem cmp_lt {a b : Int} (h : a < b) : compare a b = .lt := by simp only [compare, compareOfLessAndEq, if_pos h]
theorem cmp_gt {a b : Int} (h : b < a) : compare a b = .gt := by
  simp only [compare, compareOfLessAndEq, if_neg (Int.lt_asymm h)]
  rw [if_neg (by omega)]
theorem cmp_eq {a b : Int} (h : a = b) : compare a b = .eq := by
  subst h
  simp only [compare, compareOfLessAndEq, if_neg (Int.lt_irrefl _), if_true]

/-- ALL COMPARISONS ARE COMPARISONS OF KEYS. -/
theorem order_key {x y : Nat} (hx : nanB x = false) (hy : nanB y = false) : Ieee.double.order x y = some (compare (fkey x) (fkey y)) := by
  rcases fin_of hx with h | h
  · rcases fin_of hy with g | g
    · exact order_fin h g
    · obtain ⟨m, e, h1, h2⟩ := read_fin h
      unfold finB at h
      have h := of_decide_eq_true h
      unfold Format.order
      rw [h1, read_inf g]
      show some (if sgn y then Ordering.gt else .lt) = _
      unfold fkey
      rw [g]
      cases sgn x <;> cases sgn y <;> simp only [if_true, if_false, Bool.false_eq_true] <;> first | rw [cmp_lt (by omega)] | rw [cmp_gt (by omega)]
  · rcases fin_of hy with g | g
    · obtain ⟨m, e, h1, h2⟩ := read_fin g
      unfold finB at g
      have g := of_decide_eq_true g
      unfold Format.order
      rw [h1, read_inf h]
      show some (if sgn x then Ordering.lt else .gt) = _
      unfold fkey
      rw [h]
      cases sgn x <;> cases sgn y <;> simp only [if_true, if_false, Bool.false_eq_true] <;> first | rw [cmp_lt (by omega)] | rw [cmp_gt (by omega)]
    · unfold Format.order
      rw [read_inf h, read_inf g]
      show some (compare (sgn y).toNat (sgn x).toNat) = _
      unfold fkey
      rw [h, g, compare_tt]
      rfl

theorem order_nan_left {x : Nat} (y : Nat) (h : nanB x = true) : Ieee.double.order x y = none := by
  obtain ⟨f, hf⟩ := read_nan h
  unfold Format.order
  rw [hf]
  rfl

theorem order_nan_right {y : Nat} (x : Nat) (h : nanB y = true) : Ieee.double.order x y = none := by
  obtain ⟨f, hf⟩ := read_nan h
  unfold Format.order
  rw [hf]
  cases Ieee.double.read x <;> rfl

theorem nan_cut (a b t : Nat) : nanB (Question.cut (.nanBits .f64 a b) t) = true := by
  unfold nanB rg
  show decide (9218868437227405312 < ((t % 2) * 9223372036854775808 + 9218868437227405312 + 1 + (t / 2) % 4503599627370495) % 9223372036854775808) = true
  rw [decide_eq_true_iff]
  have h : t / 2 % 4503599627370495 < 4503599627370495 := Nat.mod_lt _ (by decide)
  rw [Nat.add_assoc, Nat.add_assoc, Nat.add_comm, Nat.add_mul_mod_self_right]
  omega

theorem cut_lt (a b t : Nat) : Question.cut (.nanBits .f64 a b) t < 2 ^ 64 := by
  show (t % 2) * 9223372036854775808 + 9218868437227405312 + 1 + (t / 2) % 4503599627370495 < 18446744073709551616
  have h : t / 2 % 4503599627370495 < 4503599627370495 := Nat.mod_lt _ (by decide)
  omega

/-- An operation's bits in a world (a NaN's are drawn). -/
def fb (op : BinOp) (x y : Nat) (w : World) : Nat := match floatBits op .f64 x y with
  | some r => r
  | none => Question.cut (.nanBits .f64 x y) (w.tape w.drawn (.nanBits .f64 x y))
/-- The world behind it. -/
def fw (op : BinOp) (x y : Nat) (w : World) : World := match floatBits op .f64 x y with
  | some _ => w
  | none => w.drew

theorem fb_some {op : BinOp} {x y r : Nat} (h : floatBits op .f64 x y = some r) (w : World) : fb op x y w = r := by unfold fb; rw [h]
theorem fw_some {op : BinOp} {x y r : Nat} (h : floatBits op .f64 x y = some r) (w : World) : fw op x y w = w := by unfold fw; rw [h]
theorem fb_none {op : BinOp} {x y : Nat} (h : floatBits op .f64 x y = none) (w : World) : nanB (fb op x y w) = true := by unfold fb; rw [h]; exact nan_cut _ _ _
theorem fw_below (op : BinOp) (x y : Nat) (w : World) (B : Nat) : Below B w (fw op x y w) := by
  unfold fw
  split
  · exact Below.refl _ _
  · exact (Below.refl _ _).drew

section
variable {P : Program} (w : World)
theorem run_floatArith (op : BinOp) (x y : Nat) (h : op = .add ∨ op = .sub ∨ op = .mul ∨ op = .quo) (t : TypeId) : (binOp op t (.float .f64 x) (.float .f64 y)).run P w = .ok (.float .f64 (fb op x y w)) (fw op x y w) := by
  cases e : floatBits op .f64 x y with
  | some r => rw [fb_some e, fw_some e, run_float_arith w op t .f64 x y r e]
  | none =>
    unfold fb fw
    rw [e]
    unfold floatBits at e
    rcases h with rfl | rfl | rfl | rfl <;> simp only at e <;> simp [binOp, Op.floatArith, e, choose, Sem.run, Question.forced]
theorem run_store_float (a : Addr) (m : Mode) (b : Nat) : (store a (.float .f64 b) m).run P w = stored P w a (.float .f64 b) m := run_store P w a _ m rfl
theorem run_fadd (x y : Nat) (t : TypeId) : (binOp .add t (.float .f64 x) (.float .f64 y)).run P w = .ok (.float .f64 (fb .add x y w)) (fw .add x y w) := run_floatArith w _ x y (by simp) t
theorem run_fsub (x y : Nat) (t : TypeId) : (binOp .sub t (.float .f64 x) (.float .f64 y)).run P w = .ok (.float .f64 (fb .sub x y w)) (fw .sub x y w) := run_floatArith w _ x y (by simp) t
theorem run_fmul (x y : Nat) (t : TypeId) : (binOp .mul t (.float .f64 x) (.float .f64 y)).run P w = .ok (.float .f64 (fb .mul x y w)) (fw .mul x y w) := run_floatArith w _ x y (by simp) t
theorem run_fquo (x y : Nat) (t : TypeId) : (binOp .quo t (.float .f64 x) (.float .f64 y)).run P w = .ok (.float .f64 (fb .quo x y w)) (fw .quo x y w) := run_floatArith w _ x y (by simp) t
end

theorem bits_nan_left (op : BinOp) {x : Nat} (y : Nat) (h : nanB x = true) : floatBits op .f64 x y = none := by
  obtain ⟨f, hf⟩ := read_nan h
  unfold floatBits
  rw [f64_format]
  cases op <;> simp only [Format.add, Format.sub, Format.mul, Format.div, hf] <;> rfl

theorem bits_nan_right (op : BinOp) (x : Nat) {y : Nat} (h : nanB y = true) : floatBits op .f64 x y = none := by
  obtain ⟨f, hf⟩ := read_nan h
  unfold floatBits
  rw [f64_format]
  cases op <;> simp only [Format.add, Format.sub, Format.mul, Format.div, hf] <;> cases Ieee.double.read x <;> rfl

/-- What a number is told to be: just these bits, or some NaN. -/
def FS (o : Option Nat) (r : Nat) : Prop := match o with
  | some a => r = a
  | none => nanB r = true

theorem FS.some (a : Nat) : FS (some a) a := rfl
theorem FS.none {r : Nat} (h : nanB r = true) : FS none r := h

/-- An operation on what is told. -/
def fop (op : BinOp) : Option Nat → Option Nat → Option Nat
  | some a, some b => floatBits op .f64 a b
  | _, _ => none

theorem FS.op {o1 o2 : Option Nat} {a b : Nat} (op : BinOp) (h1 : FS o1 a) (h2 : FS o2 b) (w : World) : FS (fop op o1 o2) (fb op a b w) := by
  cases o1 with
  | none =>
    show nanB _ = true
    exact fb_none (bits_nan_left op b h1) w
  | some x =>
    cases o2 with
    | none =>
      show nanB _ = true
      exact fb_none (bits_nan_right op a h2) w
    | some y =>
      have e1 : a = x := h1
      have e2 : b = y := h2
      subst e1; subst e2
      show FS (floatBits op .f64 a b) _
      cases e : floatBits op .f64 a b with
      | none => exact fb_none e w
      | some r => exact fb_some e w

/-- How two stand to each other. -/
def ford : Option Nat → Option Nat → Option Ordering
  | some a, some b => FloatKind.f64.format.order a b
  | _, _ => none

theorem FS.ord {o1 o2 : Option Nat} {a b : Nat} (h1 : FS o1 a) (h2 : FS o2 b) : FloatKind.f64.format.order a b = ford o1 o2 := by
  cases o1 with
  | none => exact order_nan_left b h1
  | some x =>
    cases o2 with
    | none => exact order_nan_right a h2
    | some y =>
      have e1 : a = x := h1
      have e2 : b = y := h2
      subst e1; subst e2
      rfl

theorem ord_self {x : Nat} (h : nanB x = false) : FloatKind.f64.format.order x x = some .eq := by rw [f64_format, order_key h h, cmp_eq rfl]
theorem ord_nan {x : Nat} (h : nanB x = true) (y : Nat) : FloatKind.f64.format.order x y = none := order_nan_left y h
theorem ord_nan' {y : Nat} (h : nanB y = true) (x : Nat) : FloatKind.f64.format.order x y = none := order_nan_right x h

/-- Two numbers with one telling: the same bits, or NaNs both. -/
theorem FS.both {o : Option Nat} {a b : Nat} (h1 : FS o a) (h2 : FS o b) : (a = b) ∨ (nanB a = true ∧ nanB b = true) := by
  cases o with
  | none => exact .inr ⟨h1, h2⟩
  | some x => exact .inl ((show a = x from h1).trans (show b = x from h2).symm)

/-- What is a nought. -/
theorem zero_iff {x : Nat} (h : nanB x = false) : (FloatKind.f64.format.order x 0 = some .eq) ↔ rg x = 0 := by
  rw [f64_format, order_key h (by decide)]
  have h0 : fkey 0 = 0 := by decide
  rw [h0]
  unfold fkey
  constructor
  · intro hh
    injection hh with hh
    rcases Int.lt_trichotomy (if sgn x then -(rg x : Int) else rg x) 0 with h1 | h1 | h1
    · rw [cmp_lt h1] at hh; cases hh
    · revert h1; cases sgn x <;> simp only [if_true, if_false, Bool.false_eq_true] <;> intro <;> omega
    · rw [cmp_gt h1] at hh; cases hh
  · intro hh
    rw [hh, cmp_eq]
    cases sgn x <;> rfl

/-- One by a nought is an infinity with its sign. -/
theorem one_by {x : Nat} (h : rg x = 0) : floatBits .quo .f64 4607182418800017408 x = some (if sgn x then 18442240474082181120 else 9218868437227405312) := by
  have hf : finB x = true := by unfold finB; rw [h]; decide
  have h1 : Ieee.double.read x = .number (sgn x) 0 (-1074) := by
    unfold Format.read
    rw [binade64, sign64, least64]
    unfold rg at h
    rw [h]
    rfl
  have h2 : Ieee.double.read 4607182418800017408 = .number false 4503599627370496 (-52) := by decide
  unfold floatBits
  rw [f64_format]
  show (Ieee.Datum.quotient _ (Ieee.double.read _) (Ieee.double.read x)).map _ = _
  rw [h1, h2]
  cases sgn x <;> decide

theorem quo_gt (x : Nat) : FloatKind.f64.format.order (if sgn x then 18442240474082181120 else 9218868437227405312) 0 = if sgn x then some .lt else some .gt := by
  cases sgn x <;> decide
end Go.Proofs.Ythpnlhbfginkjaa
