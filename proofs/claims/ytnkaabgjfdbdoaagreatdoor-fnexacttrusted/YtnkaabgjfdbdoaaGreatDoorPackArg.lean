/- Laid together: ArgSeal. -/
import Derived.Test.YtnkaabgjfdbdoaaGreatDoorRowSeal
import Derived.Test.YtnkaabgjfdbdoaaGreatDoorPackArR

namespace Go.Proofs.YtnkaabgjfdbdoaaGreatDoor
open Go.ChangeShapes Go.WideShapes Go.ChangeAt Go.RowKit

set_option maxRecDepth 100000 in
theorem opened_Seal {H : Type} {enc : TypeId × Value → H} {W : World} {base fuel : Nat} {spare : Nat → Bool} {held : Bool} {cs : List Value} {x : DataW H × List MemPlace}
    (h : DataW.trod enc Tryz.prog W base spare held fuel 30 cs = some x) : ∃ e : SealD, cs = encSeal e ∧ tameSeal e := by
  obtain ⟨hl, n, hf⟩ := trod_flat (show Tryz.prog.underlying 30 = some (.struct #[_, _, _, _]) from Tryz.underlying30) (by kernel_rfl) (by kernel_rfl) h
  obtain ⟨v0, y0, e0, t0⟩ := hf 0 _ rfl
  obtain ⟨z0, q0, _, w0⟩ := DataW.trod_int Tryz.underlying2 t0
  injection q0 with q0 _
  subst q0
  obtain ⟨v1, y1, e1, t1⟩ := hf 1 _ rfl
  obtain ⟨z1, q1, _, w1⟩ := DataW.trod_int Tryz.underlying2 t1
  injection q1 with q1 _
  subst q1
  obtain ⟨v2, y2, e2, t2⟩ := hf 2 _ rfl
  obtain ⟨z2, q2, _, w2⟩ := DataW.trod_string Tryz.underlying9 t2
  unfold maxLen at w2
  injection q2 with q2 _
  subst q2
  obtain ⟨v3, y3, e3, t3⟩ := hf 3 _ rfl
  obtain ⟨z3, q3, _, w3⟩ := DataW.trod_string Tryz.underlying9 t3
  unfold maxLen at w3
  injection q3 with q3 _
  subst q3
  have m1 : IntKind.i64.min = -9223372036854775808 := rfl
  have m2 : IntKind.i64.max = 9223372036854775807 := rfl
  have b0 : -9223372036854775808 ≤ z0 ∧ z0 ≤ 9223372036854775807 := by
    have h := w0
    simp [Lit.wf] at h
    omega
  have b1 : -9223372036854775808 ≤ z1 ∧ z1 ≤ 9223372036854775807 := by
    have h := w1
    simp [Lit.wf] at h
    omega
  refine ⟨⟨z0, z1, z2, z3⟩, ?_, ⟨w2, w3, b0, b1⟩⟩
  match cs, hl with
  | [a0, a1, a2, a3], _ =>
    simp at e0 e1 e2 e3
    subst e0 e1 e2 e3
    rfl

set_option maxRecDepth 100000 in
theorem arg_Seals {H : Type} {enc : TypeId × Value → H} {W : World} {base fuel : Nat} {spare : Nat → Bool} {held : Bool} {v : Value} {x : DataW H × List MemPlace}
    (h : DataW.trod enc Tryz.prog W base spare held fuel 28 [v] = some x) (hsp : ∀ k, spare k = true) : ∃ es : List SealD, FArg encSeal 4 W v es ∧ (∀ e ∈ es, tameSeal e) ∧ es.length ≤ maxLen :=
  arg_flat (by decide) Tryz.underlying28 (by kernel_rfl) (fun _ _ _ h => opened_Seal h) h hsp

set_option maxRecDepth 100000 in
theorem open_Seal {H : Type} {enc : TypeId × Value → H} {W : World} {r : Reach} {b0 base : Nat} {spare : Nat → Bool} {held : Bool} {v : Value} {d : DataW H} {p : List MemPlace}
    (hv : Value.okWide Tryz.prog W r b0 30 v) (h : DataW.Trod enc Tryz.prog W base spare held 30 v d p) : ∃ e : SealD, v = .agg (encSeal e).toArray ∧ tameSeal e := by
  obtain ⟨cs, rfl, _⟩ := okWide_struct (show Tryz.prog.underlying 30 = some (.struct #[_, _, _, _]) from Tryz.underlying30) hv
  obtain ⟨fuel, hf⟩ := h
  obtain ⟨e, he, ht⟩ := opened_Seal hf
  exact ⟨e, by rw [← he]; rfl, ht⟩
end Go.Proofs.YtnkaabgjfdbdoaaGreatDoor
