/- Rows of floats that came in, opened; structs of two floats (Drift, Mark), opened. -/
import Derived.Test.YthpnlhbfginkjaaFloatKit
import Derived.Test.YthpnlhbfginkjaaArgFlat
import Derived.Laws.Cover2
namespace Go.Proofs.Ythpnlhbfginkjaa
open Go.ChangeShapes Go.WideShapes Go.ChangeAt Go.RowKit Go.Deep

theorem trod_float {H : Type} {enc : TypeId × Value → H} {P : Program} {w : World} {base fuel : Nat} {spare : Nat → Bool} {held : Bool} {t : TypeId} {k : FloatKind} {cs : List Value} {x : DataW H × List MemPlace} (ht : P.underlying t = some (.float k)) (h : DataW.trod enc P w base spare held fuel t cs = some x) : ∃ b, cs = [.float k b] ∧ x = (.lit (.float k b), []) ∧ (Lit.float k b).wf = true := by
  cases fuel with
  | zero => simp [DataW.trod] at h
  | succ n =>
    unfold DataW.trod at h
    rw [ht] at h
    split at h <;> simp_all

theorem float_wf {b : Nat} (h : (Lit.float .f64 b).wf = true) : b < 18446744073709551616 := by
  simp [Lit.wf] at h
  exact h

def encFl (b : Nat) : List Value := [.float .f64 b]

theorem arg_fls {H : Type} {enc : TypeId × Value → H} {W : World} {base fuel : Nat} {spare : Nat → Bool} {held : Bool} {v : Value} {x : DataW H × List MemPlace}
    (h : DataW.trod enc Try.prog W base spare held fuel 32 [v] = some x) (hsp : ∀ k, spare k = true) : ∃ l : List Nat, ArgFls W v l ∧ (∀ b ∈ l, b < 18446744073709551616) ∧ l.length ≤ maxLen := by
  obtain ⟨l, ⟨p, c, rfl, hp⟩, hq, hm⟩ := arg_flat (ec := encFl) (Q := fun b => b < 18446744073709551616) (k := 1) (by decide) Try.underlying32 (by kernel_rfl) (fun n cs y hy => by
    obtain ⟨b, rfl, _, hw⟩ := trod_float Try.underlying24 hy
    exact ⟨b, rfl, float_wf hw⟩) h hsp
  refine ⟨l, ⟨p, c, rfl, fun i hi => ?_⟩, hq, hm⟩
  obtain ⟨ad, rfl, hl, hc⟩ := hp i hi
  have h0 := hc 0 (by decide)
  rw [Nat.mul_one] at h0
  exact ⟨ad, rfl, hl, h0⟩

structure MarkD where
  x0 : Nat
  x1 : Nat

def encMark (e : MarkD) : List Value := [.float .f64 e.x0, .float .f64 e.x1]

set_option maxRecDepth 100000 in
theorem arg_Marks {H : Type} {enc : TypeId × Value → H} {W : World} {base fuel : Nat} {spare : Nat → Bool} {held : Bool} {v : Value} {x : DataW H × List MemPlace}
    (h : DataW.trod enc Try.prog W base spare held fuel 22 [v] = some x) (hsp : ∀ k, spare k = true) : ∃ es : List MarkD, FArg encMark 2 W v es ∧ (∀ e ∈ es, e.x0 < 18446744073709551616 ∧ e.x1 < 18446744073709551616) ∧ es.length ≤ maxLen :=
  arg_flat (by decide) Try.underlying22 (by kernel_rfl) (fun n cs y hy => by
    obtain ⟨hl, n, hg⟩ := trod_flat (show Try.prog.underlying 65 = some (.struct #[_, _]) from Try.underlying65) (by kernel_rfl) (by kernel_rfl) hy
    obtain ⟨v0, y0, e0, t0⟩ := hg 0 _ rfl
    obtain ⟨z0, q0, _, w0⟩ := trod_float Try.underlying24 t0
    injection q0 with q0 _
    subst q0
    obtain ⟨v1, y1, e1, t1⟩ := hg 1 _ rfl
    obtain ⟨z1, q1, _, w1⟩ := trod_float Try.underlying24 t1
    injection q1 with q1 _
    subst q1
    refine ⟨⟨z0, z1⟩, ?_, float_wf w0, float_wf w1⟩
    match cs, hl with
    | [a0, a1], _ =>
      simp at e0 e1
      subst e0 e1
      rfl) h hsp

end Go.Proofs.Ythpnlhbfginkjaa
