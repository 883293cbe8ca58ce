/- Laid together: ArgStructKit, ArgRef, ArgStPolicy, ArgImage. -/
import Derived.Test.YtponjghppnpnhaaDoorArgFlat
import Derived.Test.YtponjghppnpnhaaDoorArgTexts
import Derived.Test.YtponjghppnpnhaaDoorTabLaid
import Derived.Test.YtponjghppnpnhaaDoorRowRef
import Derived.Test.YtponjghppnpnhaaDoorRowImage

namespace Go.Proofs.YtponjghppnpnhaaDoor
open Go.ChangeShapes Go.WideShapes Go.ChangeAt Go.RowKit

theorem arg_strs {H : Type} {enc : TypeId × Value → H} {W : World} {base fuel : Nat} {spare : Nat → Bool} {held : Bool} {v : Value} {x : DataW H × List MemPlace}
    (hf : DataW.trod enc Tryd.prog W base spare held fuel 22 [v] = some x) (hsp : ∀ k, spare k = true) : ∃ ps : List (List UInt8), ArgAt W v ps ∧ (∀ p ∈ ps, p.length ≤ 9223372036854775807) ∧ ps.length ≤ 9223372036854775807 := by
  rcases open_strings Tryd.underlying22 Tryd.underlying9 cells_string hf with ⟨hcs, _⟩ | ⟨ad, len', cap', ss, hcs, _, hl, hm, hz, _, hcell, hsz⟩
  · injection hcs with hcs _
    rw [hcs]
    exact ⟨[], ⟨none, 0, rfl, fun i hi => absurd hi (by simp)⟩, by simp, by simp⟩
  · injection hcs with hcs _
    rw [hcs]
    rw [if_pos (hsp _)] at hz
    have hlen : ((ss.take len').map (·.data.toList)).length = len' := by simp; omega
    refine ⟨(ss.take len').map (·.data.toList), ⟨some ad, cap', by rw [hlen], fun i hi => ⟨ad, rfl, ?_, ?_⟩⟩, ?_, ?_⟩
    · rw [hlen] at hi
      have := World.block_lt_of_cell? W _ (hcell i (by omega))
      rw [add_block] at this
      exact this
    · rw [hlen] at hi
      rw [hcell i (by omega), List.getElem_map, List.getElem_take]
      simp [List.getD_eq_getElem?_getD, List.getElem?_eq_getElem (show i < ss.length by omega)]
    · intro p hp
      obtain ⟨s, hs, rfl⟩ := List.mem_map.1 hp
      have := hsz s (List.mem_of_mem_take hs)
      unfold maxLen at this
      simpa using this
    · rw [hlen]
      unfold maxLen at hm
      omega
end Go.Proofs.YtponjghppnpnhaaDoor

namespace Go.Proofs.YtponjghppnpnhaaDoor
open Go.ChangeShapes Go.WideShapes Go.ChangeAt Go.RowKit

set_option maxRecDepth 100000 in
theorem opened_Ref {H : Type} {enc : TypeId × Value → H} {W : World} {base fuel : Nat} {spare : Nat → Bool} {held : Bool} {cs : List Value} {x : DataW H × List MemPlace}
    (h : DataW.trod enc Tryd.prog W base spare held fuel 168 cs = some x) : ∃ e : RefD, cs = encRef e ∧ tameRef e := by
  obtain ⟨hl, n, hf⟩ := trod_flat (show Tryd.prog.underlying 168 = some (.struct #[_, _, _]) from Tryd.underlying168) (by kernel_rfl) (by kernel_rfl) h
  obtain ⟨v0, y0, e0, t0⟩ := hf 0 _ rfl
  obtain ⟨z0, q0, _, w0⟩ := DataW.trod_int Tryd.underlying2 t0
  injection q0 with q0 _
  subst q0
  obtain ⟨v1, y1, e1, t1⟩ := hf 1 _ rfl
  obtain ⟨z1, q1, _, w1⟩ := DataW.trod_string Tryd.underlying9 t1
  unfold maxLen at w1
  injection q1 with q1 _
  subst q1
  obtain ⟨v2, y2, e2, t2⟩ := hf 2 _ rfl
  obtain ⟨z2, q2, _, w2⟩ := DataW.trod_int Tryd.underlying2 t2
  injection q2 with q2 _
  subst q2
  have m1 : IntKind.i64.min = -9223372036854775808 := rfl
  have m2 : IntKind.i64.max = 9223372036854775807 := rfl
  have b0 : -9223372036854775808 ≤ z0 ∧ z0 ≤ 9223372036854775807 := by
    have h := w0
    simp [Lit.wf] at h
    omega
  have b2 : -9223372036854775808 ≤ z2 ∧ z2 ≤ 9223372036854775807 := by
    have h := w2
    simp [Lit.wf] at h
    omega
  refine ⟨⟨z0, z1, z2⟩, ?_, ⟨w1, b0, b2⟩⟩
  match cs, hl with
  | [a0, a1, a2], _ =>
    simp at e0 e1 e2
    subst e0 e1 e2
    rfl

set_option maxRecDepth 100000 in
theorem arg_Refs {H : Type} {enc : TypeId × Value → H} {W : World} {base fuel : Nat} {spare : Nat → Bool} {held : Bool} {v : Value} {x : DataW H × List MemPlace}
    (h : DataW.trod enc Tryd.prog W base spare held fuel 44 [v] = some x) (hsp : ∀ k, spare k = true) : ∃ es : List RefD, FArg encRef 3 W v es ∧ (∀ e ∈ es, tameRef e) ∧ es.length ≤ maxLen :=
  arg_flat (by decide) Tryd.underlying44 (by kernel_rfl) (fun _ _ _ h => opened_Ref h) h hsp

set_option maxRecDepth 100000 in
theorem open_Ref {H : Type} {enc : TypeId × Value → H} {W : World} {r : Reach} {b0 base : Nat} {spare : Nat → Bool} {held : Bool} {v : Value} {d : DataW H} {p : List MemPlace}
    (hv : Value.okWide Tryd.prog W r b0 168 v) (h : DataW.Trod enc Tryd.prog W base spare held 168 v d p) : ∃ e : RefD, v = .agg (encRef e).toArray ∧ tameRef e := by
  obtain ⟨cs, rfl, _⟩ := okWide_struct (show Tryd.prog.underlying 168 = some (.struct #[_, _, _]) from Tryd.underlying168) hv
  obtain ⟨fuel, hf⟩ := h
  obtain ⟨e, he, ht⟩ := opened_Ref hf
  exact ⟨e, by rw [← he]; rfl, ht⟩
end Go.Proofs.YtponjghppnpnhaaDoor

namespace Go.Proofs.YtponjghppnpnhaaDoor
open Go.ChangeShapes Go.WideShapes Go.ChangeAt Go.RowKit

set_option maxRecDepth 100000 in
theorem open_Policy {H : Type} {enc : TypeId × Value → H} {W : World} {r : Reach} {b0 base : Nat} {spare : Nat → Bool} {held : Bool} {v : Value} {d : DataW H} {p : List MemPlace}
    (hsp : ∀ k, spare k = true) (hv : Value.okWide Tryd.prog W r b0 46 v) (h : DataW.Trod enc Tryd.prog W base spare held 46 v d p) :
    ∃ (x0 : Int) (l1 : List RefD) (l2 : List (List UInt8)) (a1 : Value) (a2 : Value), v = .agg #[.int .i64 x0, a1, a2] ∧ (-9223372036854775808 ≤ x0 ∧ x0 ≤ 9223372036854775807) ∧ FArg encRef 3 W a1 l1 ∧ (∀ e ∈ l1, tameRef e) ∧ l1.length ≤ maxLen ∧ ArgAt W a2 l2 ∧ (∀ p ∈ l2, p.length ≤ 9223372036854775807) ∧ l2.length ≤ 9223372036854775807 := by
  obtain ⟨cs, rfl, _⟩ := okWide_struct (show Tryd.prog.underlying 46 = some (.struct #[_, _, _]) from Tryd.underlying46) hv
  obtain ⟨fuel, hf0⟩ := h
  obtain ⟨hl, n, hf⟩ := trod_flat (show Tryd.prog.underlying 46 = some (.struct #[_, _, _]) from Tryd.underlying46) (by kernel_rfl) (by kernel_rfl) hf0
  have m1 : IntKind.i64.min = -9223372036854775808 := rfl
  have m2 : IntKind.i64.max = 9223372036854775807 := rfl
  obtain ⟨v0, y0, e0, t0⟩ := hf 0 _ rfl
  obtain ⟨x0, q0, _, w0⟩ := DataW.trod_int Tryd.underlying2 t0
  injection q0 with q0 _
  subst q0
  have w02 : -9223372036854775808 ≤ x0 ∧ x0 ≤ 9223372036854775807 := by
    have h := w0
    simp [Lit.wf] at h
    omega
  obtain ⟨v1, y1, e1, t1⟩ := hf 1 _ rfl
  obtain ⟨l1, g1, u1, n1⟩ := arg_Refs t1 hsp
  obtain ⟨v2, y2, e2, t2⟩ := hf 2 _ rfl
  obtain ⟨l2, g2, u2, n2⟩ := arg_strs t2 hsp
  refine ⟨x0, l1, l2, v1, v2, ?_, w02, g1, u1, n1, g2, u2, n2⟩
  obtain ⟨cs⟩ := cs
  match cs, hl with
  | [c0, c1, c2], _ =>
    simp [Value.cells] at e0 e1 e2
    subst e0 e1 e2
    rfl
end Go.Proofs.YtponjghppnpnhaaDoor

namespace Go.Proofs.YtponjghppnpnhaaDoor
open Go.ChangeShapes Go.WideShapes Go.ChangeAt Go.RowKit

set_option maxRecDepth 100000 in
theorem opened_Image {H : Type} {enc : TypeId × Value → H} {W : World} {base fuel : Nat} {spare : Nat → Bool} {held : Bool} {cs : List Value} {x : DataW H × List MemPlace}
    (h : DataW.trod enc Tryd.prog W base spare held fuel 48 cs = some x) : ∃ e : ImageD, cs = encImage e ∧ tameImage e := by
  obtain ⟨hl, n, hf⟩ := trod_flat (show Tryd.prog.underlying 48 = some (.struct #[_, _]) from Tryd.underlying48) (by kernel_rfl) (by kernel_rfl) h
  obtain ⟨v0, y0, e0, t0⟩ := hf 0 _ rfl
  obtain ⟨z0, q0, _, w0⟩ := DataW.trod_string Tryd.underlying9 t0
  unfold maxLen at w0
  injection q0 with q0 _
  subst q0
  obtain ⟨v1, y1, e1, t1⟩ := hf 1 _ rfl
  obtain ⟨z1, q1, _, w1⟩ := DataW.trod_int Tryd.underlying2 t1
  injection q1 with q1 _
  subst q1
  have m1 : IntKind.i64.min = -9223372036854775808 := rfl
  have m2 : IntKind.i64.max = 9223372036854775807 := rfl
  have b1 : -9223372036854775808 ≤ z1 ∧ z1 ≤ 9223372036854775807 := by
    have h := w1
    simp [Lit.wf] at h
    omega
  refine ⟨⟨z0, z1⟩, ?_, ⟨w0, b1⟩⟩
  match cs, hl with
  | [a0, a1], _ =>
    simp at e0 e1
    subst e0 e1
    rfl

set_option maxRecDepth 100000 in
theorem open_Image {H : Type} {enc : TypeId × Value → H} {W : World} {r : Reach} {b0 base : Nat} {spare : Nat → Bool} {held : Bool} {v : Value} {d : DataW H} {p : List MemPlace}
    (hv : Value.okWide Tryd.prog W r b0 48 v) (h : DataW.Trod enc Tryd.prog W base spare held 48 v d p) : ∃ e : ImageD, v = .agg (encImage e).toArray ∧ tameImage e := by
  obtain ⟨cs, rfl, _⟩ := okWide_struct (show Tryd.prog.underlying 48 = some (.struct #[_, _]) from Tryd.underlying48) hv
  obtain ⟨fuel, hf⟩ := h
  obtain ⟨e, he, ht⟩ := opened_Image hf
  exact ⟨e, by rw [← he]; rfl, ht⟩
end Go.Proofs.YtponjghppnpnhaaDoor
