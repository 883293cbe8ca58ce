/- Laid together: ArgImage. -/
import Derived.Test.YtnkaabgjfdbdoaaGreatDoorPackRR
import Derived.Test.YtnkaabgjfdbdoaaGreatDoorPackArR

namespace Go.Proofs.YtnkaabgjfdbdoaaGreatDoor
open Go.ChangeShapes Go.WideShapes Go.ChangeAt Go.RowKit

set_option maxRecDepth 100000 in
theorem opened_Image {H : Type} {enc : TypeId × Value → H} {W : World} {base fuel : Nat} {spare : Nat → Bool} {held : Bool} {cs : List Value} {x : DataW H × List MemPlace}
    (h : DataW.trod enc Tryz.prog W base spare held fuel 63 cs = some x) : ∃ e : ImageD, cs = encImage e ∧ tameImage e := by
  obtain ⟨hl, n, hf⟩ := trod_flat (show Tryz.prog.underlying 63 = some (.struct #[_, _]) from Tryz.underlying63) (by kernel_rfl) (by kernel_rfl) h
  obtain ⟨v0, y0, e0, t0⟩ := hf 0 _ rfl
  obtain ⟨z0, q0, _, w0⟩ := DataW.trod_string Tryz.underlying9 t0
  unfold maxLen at w0
  injection q0 with q0 _
  subst q0
  obtain ⟨v1, y1, e1, t1⟩ := hf 1 _ rfl
  obtain ⟨z1, q1, _, w1⟩ := DataW.trod_int Tryz.underlying2 t1
  injection q1 with q1 _
  subst q1
  have m1 : IntKind.i64.min = -9223372036854775808 := rfl
  have m2 : IntKind.i64.max = 9223372036854775807 := rfl
  have b1 : -9223372036854775808 ≤ z1 ∧ z1 ≤ 9223372036854775807 := by
    have h := w1
    simp [Lit.wf] at h
    omega
  refine ⟨⟨z0, z1⟩, ?_, ⟨w0, b1⟩⟩
  match cs, hl with
  | [a0, a1], _ =>
    simp at e0 e1
    subst e0 e1
    rfl

set_option maxRecDepth 100000 in
theorem arg_Images {H : Type} {enc : TypeId × Value → H} {W : World} {base fuel : Nat} {spare : Nat → Bool} {held : Bool} {v : Value} {x : DataW H × List MemPlace}
    (h : DataW.trod enc Tryz.prog W base spare held fuel 33 [v] = some x) (hsp : ∀ k, spare k = true) : ∃ es : List ImageD, FArg encImage 2 W v es ∧ (∀ e ∈ es, tameImage e) ∧ es.length ≤ maxLen :=
  arg_flat (by decide) Tryz.underlying33 (by kernel_rfl) (fun _ _ _ h => opened_Image h) h hsp

set_option maxRecDepth 100000 in
theorem open_Image {H : Type} {enc : TypeId × Value → H} {W : World} {r : Reach} {b0 base : Nat} {spare : Nat → Bool} {held : Bool} {v : Value} {d : DataW H} {p : List MemPlace}
    (hv : Value.okWide Tryz.prog W r b0 63 v) (h : DataW.Trod enc Tryz.prog W base spare held 63 v d p) : ∃ e : ImageD, v = .agg (encImage e).toArray ∧ tameImage e := by
  obtain ⟨cs, rfl, _⟩ := okWide_struct (show Tryz.prog.underlying 63 = some (.struct #[_, _]) from Tryz.underlying63) hv
  obtain ⟨fuel, hf⟩ := h
  obtain ⟨e, he, ht⟩ := opened_Image hf
  exact ⟨e, by rw [← he]; rfl, ht⟩
end Go.Proofs.YtnkaabgjfdbdoaaGreatDoor
