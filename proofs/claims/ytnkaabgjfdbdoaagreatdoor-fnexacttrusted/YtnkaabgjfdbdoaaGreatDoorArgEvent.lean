/- A Event that came in, and a slice of them, opened. Written by a program of ours. -/
import Derived.Test.YtnkaabgjfdbdoaaGreatDoorRowEvent
import Derived.Test.YtnkaabgjfdbdoaaGreatDoorPackArR
namespace Go.Proofs.YtnkaabgjfdbdoaaGreatDoor
open Go.ChangeShapes Go.WideShapes Go.ChangeAt Go.RowKit

set_option maxRecDepth 100000 in
theorem opened_Event {H : Type} {enc : TypeId × Value → H} {W : World} {base fuel : Nat} {spare : Nat → Bool} {held : Bool} {cs : List Value} {x : DataW H × List MemPlace}
    (h : DataW.trod enc Tryz.prog W base spare held fuel 130 cs = some x) : ∃ e : EventD, cs = encEvent e ∧ tameEvent e := by
  obtain ⟨hl, n, hf⟩ := trod_flat (show Tryz.prog.underlying 130 = some (.struct #[_, _]) from Tryz.underlying130) (by kernel_rfl) (by kernel_rfl) h
  obtain ⟨v0, y0, e0, t0⟩ := hf 0 _ rfl
  obtain ⟨z0, q0, _, w0⟩ := DataW.trod_int Tryz.underlying2 t0
  injection q0 with q0 _
  subst q0
  obtain ⟨v1, y1, e1, t1⟩ := hf 1 _ rfl
  obtain ⟨z1, q1, _, w1⟩ := DataW.trod_string Tryz.underlying9 t1
  unfold maxLen at w1
  injection q1 with q1 _
  subst q1
  have m1 : IntKind.i64.min = -9223372036854775808 := rfl
  have m2 : IntKind.i64.max = 9223372036854775807 := rfl
  have b0 : -9223372036854775808 ≤ z0 ∧ z0 ≤ 9223372036854775807 := by
    have h := w0
    simp [Lit.wf] at h
    omega
  refine ⟨⟨z0, z1⟩, ?_, ⟨w1, b0⟩⟩
  match cs, hl with
  | [a0, a1], _ =>
    simp at e0 e1
    subst e0 e1
    rfl

set_option maxRecDepth 100000 in
theorem arg_Events {H : Type} {enc : TypeId × Value → H} {W : World} {base fuel : Nat} {spare : Nat → Bool} {held : Bool} {v : Value} {x : DataW H × List MemPlace}
    (h : DataW.trod enc Tryz.prog W base spare held fuel 34 [v] = some x) (hsp : ∀ k, spare k = true) : ∃ es : List EventD, FArg encEvent 2 W v es ∧ (∀ e ∈ es, tameEvent e) ∧ es.length ≤ maxLen :=
  arg_flat (by decide) Tryz.underlying34 (by kernel_rfl) (fun _ _ _ h => opened_Event h) h hsp

set_option maxRecDepth 100000 in
theorem open_Event {H : Type} {enc : TypeId × Value → H} {W : World} {r : Reach} {b0 base : Nat} {spare : Nat → Bool} {held : Bool} {v : Value} {d : DataW H} {p : List MemPlace}
    (hv : Value.okWide Tryz.prog W r b0 130 v) (h : DataW.Trod enc Tryz.prog W base spare held 130 v d p) : ∃ e : EventD, v = .agg (encEvent e).toArray ∧ tameEvent e := by
  obtain ⟨cs, rfl, _⟩ := okWide_struct (show Tryz.prog.underlying 130 = some (.struct #[_, _]) from Tryz.underlying130) hv
  obtain ⟨fuel, hf⟩ := h
  obtain ⟨e, he, ht⟩ := opened_Event hf
  exact ⟨e, by rw [← he]; rfl, ht⟩
end Go.Proofs.YtnkaabgjfdbdoaaGreatDoor
