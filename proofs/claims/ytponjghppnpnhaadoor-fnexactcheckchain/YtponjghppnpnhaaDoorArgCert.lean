/- A Cert that came in, and a slice of them, opened. Written by a program of ours. -/
import Derived.Test.YtponjghppnpnhaaDoorRowCert
import Derived.Test.YtponjghppnpnhaaDoorArgFlat
namespace Go.Proofs.YtponjghppnpnhaaDoor
open Go.ChangeShapes Go.WideShapes Go.ChangeAt Go.RowKit

set_option maxRecDepth 100000 in
theorem opened_Cert {H : Type} {enc : TypeId × Value → H} {W : World} {base fuel : Nat} {spare : Nat → Bool} {held : Bool} {cs : List Value} {x : DataW H × List MemPlace}
    (h : DataW.trod enc Tryd.prog W base spare held fuel 30 cs = some x) : ∃ e : CertD, cs = encCert e ∧ tameCert e := by
  obtain ⟨hl, n, hf⟩ := trod_flat (show Tryd.prog.underlying 30 = some (.struct #[_, _, _, _, _]) from Tryd.underlying30) (by kernel_rfl) (by kernel_rfl) h
  obtain ⟨v0, y0, e0, t0⟩ := hf 0 _ rfl
  obtain ⟨z0, q0, _, w0⟩ := DataW.trod_string Tryd.underlying9 t0
  unfold maxLen at w0
  injection q0 with q0 _
  subst q0
  obtain ⟨v1, y1, e1, t1⟩ := hf 1 _ rfl
  obtain ⟨z1, q1, _, w1⟩ := DataW.trod_string Tryd.underlying9 t1
  unfold maxLen at w1
  injection q1 with q1 _
  subst q1
  obtain ⟨v2, y2, e2, t2⟩ := hf 2 _ rfl
  obtain ⟨z2, q2, _, w2⟩ := DataW.trod_int Tryd.underlying2 t2
  injection q2 with q2 _
  subst q2
  obtain ⟨v3, y3, e3, t3⟩ := hf 3 _ rfl
  obtain ⟨z3, q3, _, w3⟩ := DataW.trod_int Tryd.underlying2 t3
  injection q3 with q3 _
  subst q3
  obtain ⟨v4, y4, e4, t4⟩ := hf 4 _ rfl
  obtain ⟨z4, q4, _, w4⟩ := DataW.trod_string Tryd.underlying9 t4
  unfold maxLen at w4
  injection q4 with q4 _
  subst q4
  have m1 : IntKind.i64.min = -9223372036854775808 := rfl
  have m2 : IntKind.i64.max = 9223372036854775807 := rfl
  have b2 : -9223372036854775808 ≤ z2 ∧ z2 ≤ 9223372036854775807 := by
    have h := w2
    simp [Lit.wf] at h
    omega
  have b3 : -9223372036854775808 ≤ z3 ∧ z3 ≤ 9223372036854775807 := by
    have h := w3
    simp [Lit.wf] at h
    omega
  refine ⟨⟨z0, z1, z2, z3, z4⟩, ?_, ⟨w0, w1, w4, b2, b3⟩⟩
  match cs, hl with
  | [a0, a1, a2, a3, a4], _ =>
    simp at e0 e1 e2 e3 e4
    subst e0 e1 e2 e3 e4
    rfl

set_option maxRecDepth 100000 in
theorem arg_Certs {H : Type} {enc : TypeId × Value → H} {W : World} {base fuel : Nat} {spare : Nat → Bool} {held : Bool} {v : Value} {x : DataW H × List MemPlace}
    (h : DataW.trod enc Tryd.prog W base spare held fuel 36 [v] = some x) (hsp : ∀ k, spare k = true) : ∃ es : List CertD, FArg encCert 5 W v es ∧ (∀ e ∈ es, tameCert e) ∧ es.length ≤ maxLen :=
  arg_flat (by decide) Tryd.underlying36 (by kernel_rfl) (fun _ _ _ h => opened_Cert h) h hsp

set_option maxRecDepth 100000 in
theorem open_Cert {H : Type} {enc : TypeId × Value → H} {W : World} {r : Reach} {b0 base : Nat} {spare : Nat → Bool} {held : Bool} {v : Value} {d : DataW H} {p : List MemPlace}
    (hv : Value.okWide Tryd.prog W r b0 30 v) (h : DataW.Trod enc Tryd.prog W base spare held 30 v d p) : ∃ e : CertD, v = .agg (encCert e).toArray ∧ tameCert e := by
  obtain ⟨cs, rfl, _⟩ := okWide_struct (show Tryd.prog.underlying 30 = some (.struct #[_, _, _, _, _]) from Tryd.underlying30) hv
  obtain ⟨fuel, hf⟩ := h
  obtain ⟨e, he, ht⟩ := opened_Cert hf
  exact ⟨e, by rw [← he]; rfl, ht⟩
end Go.Proofs.YtponjghppnpnhaaDoor
