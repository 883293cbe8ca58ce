/- A Fact that came in, opened. Written by a program of ours. -/
import Derived.Test.YtedmancgpjpecaaArgStructKit
import Derived.Test.YtedmancgpjpecaaArgImage
namespace Go.Proofs.Ytedmancgpjpecaa
open Go.ChangeShapes Go.WideShapes Go.ChangeAt Go.RowKit

set_option maxRecDepth 100000 in
theorem open_Fact {H : Type} {enc : TypeId × Value → H} {W : World} {r : Reach} {b0 base : Nat} {spare : Nat → Bool} {held : Bool} {v : Value} {d : DataW H} {p : List MemPlace}
    (hsp : ∀ k, spare k = true) (hv : Value.okWide Try.prog W r b0 45 v) (h : DataW.Trod enc Try.prog W base spare held 45 v d p) :
    ∃ (x0 : Int) (x1 : Int) (x2 : Int) (x3 : ByteArray) (l4 : List ImageD) (x5 : Bool) (a4 : Value), v = .agg #[.int .i64 x0, .int .i64 x1, .int .i64 x2, .string x3, a4, .bool x5] ∧ (-9223372036854775808 ≤ x0 ∧ x0 ≤ 9223372036854775807) ∧ (-9223372036854775808 ≤ x1 ∧ x1 ≤ 9223372036854775807) ∧ (-9223372036854775808 ≤ x2 ∧ x2 ≤ 9223372036854775807) ∧ x3.size ≤ 9223372036854775807 ∧ FArg encImage 2 W a4 l4 ∧ (∀ e ∈ l4, tameImage e) ∧ l4.length ≤ maxLen := by
  obtain ⟨cs, rfl, _⟩ := okWide_struct (show Try.prog.underlying 45 = some (.struct #[_, _, _, _, _, _]) from Try.underlying45) hv
  obtain ⟨fuel, hf0⟩ := h
  obtain ⟨hl, n, hf⟩ := trod_flat (show Try.prog.underlying 45 = some (.struct #[_, _, _, _, _, _]) from Try.underlying45) (by kernel_rfl) (by kernel_rfl) hf0
  have m1 : IntKind.i64.min = -9223372036854775808 := rfl
  have m2 : IntKind.i64.max = 9223372036854775807 := rfl
  obtain ⟨v0, y0, e0, t0⟩ := hf 0 _ rfl
  obtain ⟨x0, q0, _, w0⟩ := DataW.trod_int Try.underlying2 t0
  injection q0 with q0 _
  subst q0
  have w02 : -9223372036854775808 ≤ x0 ∧ x0 ≤ 9223372036854775807 := by
    have h := w0
    simp [Lit.wf] at h
    omega
  obtain ⟨v1, y1, e1, t1⟩ := hf 1 _ rfl
  obtain ⟨x1, q1, _, w1⟩ := DataW.trod_int Try.underlying2 t1
  injection q1 with q1 _
  subst q1
  have w12 : -9223372036854775808 ≤ x1 ∧ x1 ≤ 9223372036854775807 := by
    have h := w1
    simp [Lit.wf] at h
    omega
  obtain ⟨v2, y2, e2, t2⟩ := hf 2 _ rfl
  obtain ⟨x2, q2, _, w2⟩ := DataW.trod_int Try.underlying2 t2
  injection q2 with q2 _
  subst q2
  have w22 : -9223372036854775808 ≤ x2 ∧ x2 ≤ 9223372036854775807 := by
    have h := w2
    simp [Lit.wf] at h
    omega
  obtain ⟨v3, y3, e3, t3⟩ := hf 3 _ rfl
  obtain ⟨x3, q3, _, w3⟩ := DataW.trod_string Try.underlying9 t3
  injection q3 with q3 _
  subst q3
  have w32 : x3.size ≤ 9223372036854775807 := by unfold maxLen at w3; exact w3
  obtain ⟨v4, y4, e4, t4⟩ := hf 4 _ rfl
  obtain ⟨l4, g4, u4, n4⟩ := arg_Images t4 hsp
  obtain ⟨v5, y5, e5, t5⟩ := hf 5 _ rfl
  obtain ⟨x5, q5, _⟩ := DataW.trod_bool Try.underlying4 t5
  injection q5 with q5 _
  subst q5
  refine ⟨x0, x1, x2, x3, l4, x5, v4, ?_, w02, w12, w22, w32, g4, u4, n4⟩
  obtain ⟨cs⟩ := cs
  match cs, hl with
  | [c0, c1, c2, c3, c4, c5], _ =>
    simp [Value.cells] at e0 e1 e2 e3 e4 e5
    subst e0 e1 e2 e3 e4 e5
    rfl
end Go.Proofs.Ytedmancgpjpecaa
