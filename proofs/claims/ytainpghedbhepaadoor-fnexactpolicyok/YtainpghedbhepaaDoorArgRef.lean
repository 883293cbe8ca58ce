/- A Ref that came in, and a slice of them, opened. Written by a program of ours. -/
import Derived.Test.YtainpghedbhepaaDoorRowRef
import Derived.Test.YtainpghedbhepaaDoorArgFlat
namespace Go.Proofs.YtainpghedbhepaaDoor
open Go.ChangeShapes Go.WideShapes Go.ChangeAt Go.RowKit

set_option maxRecDepth 100000 in
theorem opened_Ref {H : Type} {enc : TypeId × Value → H} {W : World} {base fuel : Nat} {spare : Nat → Bool} {held : Bool} {cs : List Value} {x : DataW H × List MemPlace}
    (h : DataW.trod enc Tryd.prog W base spare held fuel 104 cs = some x) : ∃ e : RefD, cs = encRef e ∧ tameRef e := by
  obtain ⟨hl, n, hf⟩ := trod_flat (show Tryd.prog.underlying 104 = some (.struct #[_, _, _]) from Tryd.underlying104) (by kernel_rfl) (by kernel_rfl) h
  obtain ⟨v0, y0, e0, t0⟩ := hf 0 _ rfl
  obtain ⟨z0, q0, _, w0⟩ := DataW.trod_int Tryd.underlying2 t0
  injection q0 with q0 _
  subst q0
  obtain ⟨v1, y1, e1, t1⟩ := hf 1 _ rfl
  obtain ⟨z1, q1, _, w1⟩ := DataW.trod_string Tryd.underlying9 t1
  unfold maxLen at w1
  injection q1 with q1 _
  subst q1
  obtain ⟨v2, y2, e2, t2⟩ := hf 2 _ rfl
  obtain ⟨z2, q2, _, w2⟩ := DataW.trod_int Tryd.underlying2 t2
  injection q2 with q2 _
  subst q2
  have m1 : IntKind.i64.min = -9223372036854775808 := rfl
  have m2 : IntKind.i64.max = 9223372036854775807 := rfl
  have b0 : -9223372036854775808 ≤ z0 ∧ z0 ≤ 9223372036854775807 := by
    have h := w0
    simp [Lit.wf] at h
    omega
  have b2 : -9223372036854775808 ≤ z2 ∧ z2 ≤ 9223372036854775807 := by
    have h := w2
    simp [Lit.wf] at h
    omega
  refine ⟨⟨z0, z1, z2⟩, ?_, ⟨w1, b0, b2⟩⟩
  match cs, hl with
  | [a0, a1, a2], _ =>
    simp at e0 e1 e2
    subst e0 e1 e2
    rfl

set_option maxRecDepth 100000 in
theorem arg_Refs {H : Type} {enc : TypeId × Value → H} {W : World} {base fuel : Nat} {spare : Nat → Bool} {held : Bool} {v : Value} {x : DataW H × List MemPlace}
    (h : DataW.trod enc Tryd.prog W base spare held fuel 22 [v] = some x) (hsp : ∀ k, spare k = true) : ∃ es : List RefD, FArg encRef 3 W v es ∧ (∀ e ∈ es, tameRef e) ∧ es.length ≤ maxLen :=
  arg_flat (by decide) Tryd.underlying22 (by kernel_rfl) (fun _ _ _ h => opened_Ref h) h hsp

set_option maxRecDepth 100000 in
theorem open_Ref {H : Type} {enc : TypeId × Value → H} {W : World} {r : Reach} {b0 base : Nat} {spare : Nat → Bool} {held : Bool} {v : Value} {d : DataW H} {p : List MemPlace}
    (hv : Value.okWide Tryd.prog W r b0 104 v) (h : DataW.Trod enc Tryd.prog W base spare held 104 v d p) : ∃ e : RefD, v = .agg (encRef e).toArray ∧ tameRef e := by
  obtain ⟨cs, rfl, _⟩ := okWide_struct (show Tryd.prog.underlying 104 = some (.struct #[_, _, _]) from Tryd.underlying104) hv
  obtain ⟨fuel, hf⟩ := h
  obtain ⟨e, he, ht⟩ := opened_Ref hf
  exact ⟨e, by rw [← he]; rfl, ht⟩
end Go.Proofs.YtainpghedbhepaaDoor
