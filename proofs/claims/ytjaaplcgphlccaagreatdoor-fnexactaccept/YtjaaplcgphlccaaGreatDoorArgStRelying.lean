/- A Relying that came in, opened. Written by a program of ours. -/
import Derived.Test.YtjaaplcgphlccaaGreatDoorArgStructKit
namespace Go.Proofs.YtjaaplcgphlccaaGreatDoor
open Go.ChangeShapes Go.WideShapes Go.ChangeAt Go.RowKit

set_option maxRecDepth 100000 in
theorem open_Relying {H : Type} {enc : TypeId × Value → H} {W : World} {r : Reach} {b0 base : Nat} {spare : Nat → Bool} {held : Bool} {v : Value} {d : DataW H} {p : List MemPlace}
    (hsp : ∀ k, spare k = true) (hv : Value.okWide Tryz.prog W r b0 24 v) (h : DataW.Trod enc Tryz.prog W base spare held 24 v d p) :
    ∃ (l0 : List (List UInt8)) (l1 : List (List UInt8)) (l2 : List (List UInt8)) (a0 : Value) (a1 : Value) (a2 : Value), v = .agg #[a0, a1, a2] ∧ ArgAt W a0 l0 ∧ (∀ p ∈ l0, p.length ≤ 9223372036854775807) ∧ l0.length ≤ 9223372036854775807 ∧ ArgAt W a1 l1 ∧ (∀ p ∈ l1, p.length ≤ 9223372036854775807) ∧ l1.length ≤ 9223372036854775807 ∧ ArgAt W a2 l2 ∧ (∀ p ∈ l2, p.length ≤ 9223372036854775807) ∧ l2.length ≤ 9223372036854775807 := by
  obtain ⟨cs, rfl, _⟩ := okWide_struct (show Tryz.prog.underlying 24 = some (.struct #[_, _, _]) from Tryz.underlying24) hv
  obtain ⟨fuel, hf0⟩ := h
  obtain ⟨hl, n, hf⟩ := trod_flat (show Tryz.prog.underlying 24 = some (.struct #[_, _, _]) from Tryz.underlying24) (by kernel_rfl) (by kernel_rfl) hf0
  have m1 : IntKind.i64.min = -9223372036854775808 := rfl
  have m2 : IntKind.i64.max = 9223372036854775807 := rfl
  obtain ⟨v0, y0, e0, t0⟩ := hf 0 _ rfl
  obtain ⟨l0, g0, u0, n0⟩ := arg_strs t0 hsp
  obtain ⟨v1, y1, e1, t1⟩ := hf 1 _ rfl
  obtain ⟨l1, g1, u1, n1⟩ := arg_strs t1 hsp
  obtain ⟨v2, y2, e2, t2⟩ := hf 2 _ rfl
  obtain ⟨l2, g2, u2, n2⟩ := arg_strs t2 hsp
  refine ⟨l0, l1, l2, v0, v1, v2, ?_, g0, u0, n0, g1, u1, n1, g2, u2, n2⟩
  obtain ⟨cs⟩ := cs
  match cs, hl with
  | [c0, c1, c2], _ =>
    simp [Value.cells] at e0 e1 e2
    subst e0 e1 e2
    rfl
end Go.Proofs.YtjaaplcgphlccaaGreatDoor
