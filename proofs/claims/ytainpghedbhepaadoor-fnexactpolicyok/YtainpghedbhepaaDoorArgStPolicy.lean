/- A Policy that came in, opened. Written by a program of ours. -/
import Derived.Test.YtainpghedbhepaaDoorArgStructKit
import Derived.Test.YtainpghedbhepaaDoorArgRef
namespace Go.Proofs.YtainpghedbhepaaDoor
open Go.ChangeShapes Go.WideShapes Go.ChangeAt Go.RowKit

set_option maxRecDepth 100000 in
theorem open_Policy {H : Type} {enc : TypeId × Value → H} {W : World} {r : Reach} {b0 base : Nat} {spare : Nat → Bool} {held : Bool} {v : Value} {d : DataW H} {p : List MemPlace}
    (hsp : ∀ k, spare k = true) (hv : Value.okWide Tryd.prog W r b0 25 v) (h : DataW.Trod enc Tryd.prog W base spare held 25 v d p) :
    ∃ (x0 : Int) (l1 : List RefD) (l2 : List (List UInt8)) (a1 : Value) (a2 : Value), v = .agg #[.int .i64 x0, a1, a2] ∧ (-9223372036854775808 ≤ x0 ∧ x0 ≤ 9223372036854775807) ∧ FArg encRef 3 W a1 l1 ∧ (∀ e ∈ l1, tameRef e) ∧ l1.length ≤ maxLen ∧ ArgAt W a2 l2 ∧ (∀ p ∈ l2, p.length ≤ 9223372036854775807) ∧ l2.length ≤ 9223372036854775807 := by
  obtain ⟨cs, rfl, _⟩ := okWide_struct (show Tryd.prog.underlying 25 = some (.struct #[_, _, _]) from Tryd.underlying25) hv
  obtain ⟨fuel, hf0⟩ := h
  obtain ⟨hl, n, hf⟩ := trod_flat (show Tryd.prog.underlying 25 = some (.struct #[_, _, _]) from Tryd.underlying25) (by kernel_rfl) (by kernel_rfl) hf0
  have m1 : IntKind.i64.min = -9223372036854775808 := rfl
  have m2 : IntKind.i64.max = 9223372036854775807 := rfl
  obtain ⟨v0, y0, e0, t0⟩ := hf 0 _ rfl
  obtain ⟨x0, q0, _, w0⟩ := DataW.trod_int Tryd.underlying2 t0
  injection q0 with q0 _
  subst q0
  have w02 : -9223372036854775808 ≤ x0 ∧ x0 ≤ 9223372036854775807 := by
    have h := w0
    simp [Lit.wf] at h
    omega
  obtain ⟨v1, y1, e1, t1⟩ := hf 1 _ rfl
  obtain ⟨l1, g1, u1, n1⟩ := arg_Refs t1 hsp
  obtain ⟨v2, y2, e2, t2⟩ := hf 2 _ rfl
  obtain ⟨l2, g2, u2, n2⟩ := arg_strs t2 hsp
  refine ⟨x0, l1, l2, v1, v2, ?_, w02, g1, u1, n1, g2, u2, n2⟩
  obtain ⟨cs⟩ := cs
  match cs, hl with
  | [c0, c1, c2], _ =>
    simp [Value.cells] at e0 e1 e2
    subst e0 e1 e2
    rfl
end Go.Proofs.YtainpghedbhepaaDoor
