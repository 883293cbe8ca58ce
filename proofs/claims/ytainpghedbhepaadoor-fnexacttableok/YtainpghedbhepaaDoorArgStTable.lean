/- A Table that came in, opened. Written by a program of ours. -/
import Derived.Test.YtainpghedbhepaaDoorArgStructKit
import Derived.Test.YtainpghedbhepaaDoorArgNonce
namespace Go.Proofs.YtainpghedbhepaaDoor
open Go.ChangeShapes Go.WideShapes Go.ChangeAt Go.RowKit

set_option maxRecDepth 100000 in
theorem open_Table {H : Type} {enc : TypeId × Value → H} {W : World} {r : Reach} {b0 base : Nat} {spare : Nat → Bool} {held : Bool} {v : Value} {d : DataW H} {p : List MemPlace}
    (hsp : ∀ k, spare k = true) (hv : Value.okWide Tryd.prog W r b0 47 v) (h : DataW.Trod enc Tryd.prog W base spare held 47 v d p) :
    ∃ (x0 : ByteArray) (x1 : Int) (x2 : Int) (l3 : List NonceD) (a3 : Value), v = .agg #[.string x0, .int .i64 x1, .int .i64 x2, a3] ∧ x0.size ≤ 9223372036854775807 ∧ (-9223372036854775808 ≤ x1 ∧ x1 ≤ 9223372036854775807) ∧ (-9223372036854775808 ≤ x2 ∧ x2 ≤ 9223372036854775807) ∧ FArg encNonce 2 W a3 l3 ∧ (∀ e ∈ l3, tameNonce e) ∧ l3.length ≤ maxLen := by
  obtain ⟨cs, rfl, _⟩ := okWide_struct (show Tryd.prog.underlying 47 = some (.struct #[_, _, _, _]) from Tryd.underlying47) hv
  obtain ⟨fuel, hf0⟩ := h
  obtain ⟨hl, n, hf⟩ := trod_flat (show Tryd.prog.underlying 47 = some (.struct #[_, _, _, _]) from Tryd.underlying47) (by kernel_rfl) (by kernel_rfl) hf0
  have m1 : IntKind.i64.min = -9223372036854775808 := rfl
  have m2 : IntKind.i64.max = 9223372036854775807 := rfl
  obtain ⟨v0, y0, e0, t0⟩ := hf 0 _ rfl
  obtain ⟨x0, q0, _, w0⟩ := DataW.trod_string Tryd.underlying9 t0
  injection q0 with q0 _
  subst q0
  have w02 : x0.size ≤ 9223372036854775807 := by unfold maxLen at w0; exact w0
  obtain ⟨v1, y1, e1, t1⟩ := hf 1 _ rfl
  obtain ⟨x1, q1, _, w1⟩ := DataW.trod_int Tryd.underlying2 t1
  injection q1 with q1 _
  subst q1
  have w12 : -9223372036854775808 ≤ x1 ∧ x1 ≤ 9223372036854775807 := by
    have h := w1
    simp [Lit.wf] at h
    omega
  obtain ⟨v2, y2, e2, t2⟩ := hf 2 _ rfl
  obtain ⟨x2, q2, _, w2⟩ := DataW.trod_int Tryd.underlying2 t2
  injection q2 with q2 _
  subst q2
  have w22 : -9223372036854775808 ≤ x2 ∧ x2 ≤ 9223372036854775807 := by
    have h := w2
    simp [Lit.wf] at h
    omega
  obtain ⟨v3, y3, e3, t3⟩ := hf 3 _ rfl
  obtain ⟨l3, g3, u3, n3⟩ := arg_Nonces t3 hsp
  refine ⟨x0, x1, x2, l3, v3, ?_, w02, w12, w22, g3, u3, n3⟩
  obtain ⟨cs⟩ := cs
  match cs, hl with
  | [c0, c1, c2, c3], _ =>
    simp [Value.cells] at e0 e1 e2 e3
    subst e0 e1 e2 e3
    rfl
end Go.Proofs.YtainpghedbhepaaDoor
