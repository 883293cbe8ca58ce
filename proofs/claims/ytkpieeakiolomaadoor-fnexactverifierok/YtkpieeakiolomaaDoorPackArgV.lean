/- Laid together: ArgFlat, ArgStructKit, ArgRef, ArgNonce, ArgVerifier. -/
import Derived.Test.YtkpieeakiolomaaDoorFlatRow
import Derived.ProofKit
import Derived.LaidMore
import Derived.OpenShut
import Derived.SliceStrings
import Derived.Carry
import Derived.Deep.Slices
import Derived.Lib.SmallJoins
import Derived.Test.YtkpieeakiolomaaDoorArgTexts
import Derived.Test.YtkpieeakiolomaaDoorTabLaid
import Derived.Test.YtkpieeakiolomaaDoorPackRow

namespace Go.Proofs.YtkpieeakiolomaaDoor
open Go.ChangeShapes Go.WideShapes Go.ChangeAt Go.RowKit Go.Deep

section
variable {H : Type} {enc : TypeId × Value → H} {P : Program} {w : World} {base : Nat} {spare : Nat → Bool} {held : Bool}

theorem trod_flat {t : TypeId} {fs : Array Field} {fuel : Nat} {cs : List Value} {x : DataW H × List MemPlace} (ht : P.underlying t = some (.struct fs)) (hC : P.cellsOf t = fs.size) (hone : oneCellFields P fs = true) (h : DataW.trod enc P w base spare held fuel t cs = some x) :
    cs.length = fs.size ∧ ∃ n, ∀ (i : Nat) (f : Field), fs[i]? = some f → ∃ v y, cs[i]? = some v ∧ DataW.trod enc P w base spare held n f.type [v] = some y := by
  obtain ⟨xs, n, _, _, hl, hxl, hf⟩ := DataW.trod_struct ht h
  rw [hC] at hl
  refine ⟨hl, n, fun i f hi => ?_⟩
  obtain ⟨o, c⟩ := hone_of hone i f hi
  have hlt : i < fs.size := (Array.getElem?_eq_some_iff.1 hi).1
  have h1 := hf i f hi
  rw [o, c] at h1
  have h2 : (cs.drop i).take 1 = [cs[i]'(by omega)] := by
    rw [List.drop_eq_getElem_cons (by omega)]
    rfl
  rw [h2, List.getElem?_eq_getElem (by omega)] at h1
  exact ⟨_, _, List.getElem?_eq_getElem (by omega), h1⟩

theorem arg_flat {α : Type} {ec : α → List Value} {Q : α → Prop} {k : Nat} (hk : 0 < k) {t e : TypeId} {fuel : Nat} {v : Value} {x : DataW H × List MemPlace} (ht : P.underlying t = some (.slice e)) (hC : P.cellsOf e = k)
    (hopen : ∀ n cs y, DataW.trod enc P w base spare held n e cs = some y → ∃ a, cs = ec a ∧ Q a) (h : DataW.trod enc P w base spare held fuel t [v] = some x) (hsp : ∀ b, spare b = true) :
    ∃ es : List α, FArg ec k w v es ∧ (∀ a ∈ es, Q a) ∧ es.length ≤ maxLen := by
  rcases open_slice ht h with ⟨hcs, _⟩ | ⟨ad, len, cap, m, n, D, Pl, hcs, _, hl, hm, hmm, _, hall⟩
  · injection hcs with hcs _
    rw [hcs]
    exact ⟨[], arg_nil ec k w, ⟨fun a ha => (by cases ha), Nat.zero_le _⟩⟩
  · injection hcs with hcs _
    rw [hcs]
    rw [if_pos (hsp _)] at hmm
    have each : ∀ i, i < len → ∃ a : α, Q a ∧ ad.block < w.heap.size ∧ ∀ j, j < k → w.cell? (ad.add (i * k + j)) = (ec a)[j]? := fun i hi => by
      obtain ⟨cs', h1, h2⟩ := hall i (by omega)
      obtain ⟨a, rfl, hq⟩ := hopen _ _ _ h2
      obtain ⟨_, hlen, hcell⟩ := World.cells?_some h1
      rw [hC] at hlen hcell
      have hb := World.block_lt_of_cell? w _ (show w.cell? ((ad.add (i * k)).add 0) = some ((ec a)[0]'(by omega)) by rw [hcell 0 (by omega), List.getElem?_eq_getElem (by omega)])
      rw [add_block, add_block] at hb
      exact ⟨a, hq, hb, fun j hj => by rw [← add_add]; exact hcell j hj⟩
    by_cases h0 : len = 0
    · subst h0
      exact ⟨[], ⟨some ad, cap, rfl, fun i hi => absurd hi (by simp)⟩, ⟨fun a ha => (by cases ha), Nat.zero_le _⟩⟩
    · have a0 := Classical.choose (each 0 (by omega))
      have hch : ∃ q : Nat → α, ∀ i, i < len → Q (q i) ∧ ad.block < w.heap.size ∧ ∀ j, j < k → w.cell? (ad.add (i * k + j)) = (ec (q i))[j]? :=
        ⟨fun i => if hi : i < len then Classical.choose (each i hi) else a0, fun i hi => by simp only [dif_pos hi]; exact Classical.choose_spec (each i hi)⟩
      obtain ⟨q, hq⟩ := hch
      refine ⟨(List.range len).map q, ⟨some ad, cap, by simp, fun i hi => ⟨ad, rfl, (hq 0 (by omega)).2.1, fun j hj => ?_⟩⟩, fun a ha => ?_, by simp; omega⟩
      · rw [List.getElem_map, List.getElem_range]
        exact (hq i (by simpa using hi)).2.2 j hj
      · obtain ⟨i, hi, rfl⟩ := List.mem_map.1 ha
        exact (hq i (by simpa using hi)).1
end
end Go.Proofs.YtkpieeakiolomaaDoor

namespace Go.Proofs.YtkpieeakiolomaaDoor
open Go.ChangeShapes Go.WideShapes Go.ChangeAt Go.RowKit

theorem arg_strs {H : Type} {enc : TypeId × Value → H} {W : World} {base fuel : Nat} {spare : Nat → Bool} {held : Bool} {v : Value} {x : DataW H × List MemPlace}
    (hf : DataW.trod enc Tryd.prog W base spare held fuel 24 [v] = some x) (hsp : ∀ k, spare k = true) : ∃ ps : List (List UInt8), ArgAt W v ps ∧ (∀ p ∈ ps, p.length ≤ 9223372036854775807) ∧ ps.length ≤ 9223372036854775807 := by
  rcases open_strings Tryd.underlying24 Tryd.underlying9 cells_string hf with ⟨hcs, _⟩ | ⟨ad, len', cap', ss, hcs, _, hl, hm, hz, _, hcell, hsz⟩
  · injection hcs with hcs _
    rw [hcs]
    exact ⟨[], ⟨none, 0, rfl, fun i hi => absurd hi (by simp)⟩, by simp, by simp⟩
  · injection hcs with hcs _
    rw [hcs]
    rw [if_pos (hsp _)] at hz
    have hlen : ((ss.take len').map (·.data.toList)).length = len' := by simp; omega
    refine ⟨(ss.take len').map (·.data.toList), ⟨some ad, cap', by rw [hlen], fun i hi => ⟨ad, rfl, ?_, ?_⟩⟩, ?_, ?_⟩
    · rw [hlen] at hi
      have := World.block_lt_of_cell? W _ (hcell i (by omega))
      rw [add_block] at this
      exact this
    · rw [hlen] at hi
      rw [hcell i (by omega), List.getElem_map, List.getElem_take]
      simp [List.getD_eq_getElem?_getD, List.getElem?_eq_getElem (show i < ss.length by omega)]
    · intro p hp
      obtain ⟨s, hs, rfl⟩ := List.mem_map.1 hp
      have := hsz s (List.mem_of_mem_take hs)
      unfold maxLen at this
      simpa using this
    · rw [hlen]
      unfold maxLen at hm
      omega
end Go.Proofs.YtkpieeakiolomaaDoor

namespace Go.Proofs.YtkpieeakiolomaaDoor
open Go.ChangeShapes Go.WideShapes Go.ChangeAt Go.RowKit

set_option maxRecDepth 100000 in
theorem opened_Ref {H : Type} {enc : TypeId × Value → H} {W : World} {base fuel : Nat} {spare : Nat → Bool} {held : Bool} {cs : List Value} {x : DataW H × List MemPlace}
    (h : DataW.trod enc Tryd.prog W base spare held fuel 197 cs = some x) : ∃ e : RefD, cs = encRef e ∧ tameRef e := by
  obtain ⟨hl, n, hf⟩ := trod_flat (show Tryd.prog.underlying 197 = some (.struct #[_, _, _]) from Tryd.underlying197) (by kernel_rfl) (by kernel_rfl) h
  obtain ⟨v0, y0, e0, t0⟩ := hf 0 _ rfl
  obtain ⟨z0, q0, _, w0⟩ := DataW.trod_int Tryd.underlying2 t0
  injection q0 with q0 _
  subst q0
  obtain ⟨v1, y1, e1, t1⟩ := hf 1 _ rfl
  obtain ⟨z1, q1, _, w1⟩ := DataW.trod_string Tryd.underlying9 t1
  unfold maxLen at w1
  injection q1 with q1 _
  subst q1
  obtain ⟨v2, y2, e2, t2⟩ := hf 2 _ rfl
  obtain ⟨z2, q2, _, w2⟩ := DataW.trod_int Tryd.underlying2 t2
  injection q2 with q2 _
  subst q2
  have m1 : IntKind.i64.min = -9223372036854775808 := rfl
  have m2 : IntKind.i64.max = 9223372036854775807 := rfl
  have b0 : -9223372036854775808 ≤ z0 ∧ z0 ≤ 9223372036854775807 := by
    have h := w0
    simp [Lit.wf] at h
    omega
  have b2 : -9223372036854775808 ≤ z2 ∧ z2 ≤ 9223372036854775807 := by
    have h := w2
    simp [Lit.wf] at h
    omega
  refine ⟨⟨z0, z1, z2⟩, ?_, ⟨w1, b0, b2⟩⟩
  match cs, hl with
  | [a0, a1, a2], _ =>
    simp at e0 e1 e2
    subst e0 e1 e2
    rfl

set_option maxRecDepth 100000 in
theorem arg_Refs {H : Type} {enc : TypeId × Value → H} {W : World} {base fuel : Nat} {spare : Nat → Bool} {held : Bool} {v : Value} {x : DataW H × List MemPlace}
    (h : DataW.trod enc Tryd.prog W base spare held fuel 34 [v] = some x) (hsp : ∀ k, spare k = true) : ∃ es : List RefD, FArg encRef 3 W v es ∧ (∀ e ∈ es, tameRef e) ∧ es.length ≤ maxLen :=
  arg_flat (by decide) Tryd.underlying34 (by kernel_rfl) (fun _ _ _ h => opened_Ref h) h hsp

set_option maxRecDepth 100000 in
theorem open_Ref {H : Type} {enc : TypeId × Value → H} {W : World} {r : Reach} {b0 base : Nat} {spare : Nat → Bool} {held : Bool} {v : Value} {d : DataW H} {p : List MemPlace}
    (hv : Value.okWide Tryd.prog W r b0 197 v) (h : DataW.Trod enc Tryd.prog W base spare held 197 v d p) : ∃ e : RefD, v = .agg (encRef e).toArray ∧ tameRef e := by
  obtain ⟨cs, rfl, _⟩ := okWide_struct (show Tryd.prog.underlying 197 = some (.struct #[_, _, _]) from Tryd.underlying197) hv
  obtain ⟨fuel, hf⟩ := h
  obtain ⟨e, he, ht⟩ := opened_Ref hf
  exact ⟨e, by rw [← he]; rfl, ht⟩
end Go.Proofs.YtkpieeakiolomaaDoor

namespace Go.Proofs.YtkpieeakiolomaaDoor
open Go.ChangeShapes Go.WideShapes Go.ChangeAt Go.RowKit

set_option maxRecDepth 100000 in
theorem opened_Nonce {H : Type} {enc : TypeId × Value → H} {W : World} {base fuel : Nat} {spare : Nat → Bool} {held : Bool} {cs : List Value} {x : DataW H × List MemPlace}
    (h : DataW.trod enc Tryd.prog W base spare held fuel 200 cs = some x) : ∃ e : NonceD, cs = encNonce e ∧ tameNonce e := by
  obtain ⟨hl, n, hf⟩ := trod_flat (show Tryd.prog.underlying 200 = some (.struct #[_, _]) from Tryd.underlying200) (by kernel_rfl) (by kernel_rfl) h
  obtain ⟨v0, y0, e0, t0⟩ := hf 0 _ rfl
  obtain ⟨z0, q0, _, w0⟩ := DataW.trod_int Tryd.underlying2 t0
  injection q0 with q0 _
  subst q0
  obtain ⟨v1, y1, e1, t1⟩ := hf 1 _ rfl
  obtain ⟨z1, q1, _, w1⟩ := DataW.trod_int Tryd.underlying2 t1
  injection q1 with q1 _
  subst q1
  have m1 : IntKind.i64.min = -9223372036854775808 := rfl
  have m2 : IntKind.i64.max = 9223372036854775807 := rfl
  have b0 : -9223372036854775808 ≤ z0 ∧ z0 ≤ 9223372036854775807 := by
    have h := w0
    simp [Lit.wf] at h
    omega
  have b1 : -9223372036854775808 ≤ z1 ∧ z1 ≤ 9223372036854775807 := by
    have h := w1
    simp [Lit.wf] at h
    omega
  refine ⟨⟨z0, z1⟩, ?_, ⟨b0, b1⟩⟩
  match cs, hl with
  | [a0, a1], _ =>
    simp at e0 e1
    subst e0 e1
    rfl

set_option maxRecDepth 100000 in
theorem arg_Nonces {H : Type} {enc : TypeId × Value → H} {W : World} {base fuel : Nat} {spare : Nat → Bool} {held : Bool} {v : Value} {x : DataW H × List MemPlace}
    (h : DataW.trod enc Tryd.prog W base spare held fuel 37 [v] = some x) (hsp : ∀ k, spare k = true) : ∃ es : List NonceD, FArg encNonce 2 W v es ∧ (∀ e ∈ es, tameNonce e) ∧ es.length ≤ maxLen :=
  arg_flat (by decide) Tryd.underlying37 (by kernel_rfl) (fun _ _ _ h => opened_Nonce h) h hsp

set_option maxRecDepth 100000 in
theorem open_Nonce {H : Type} {enc : TypeId × Value → H} {W : World} {r : Reach} {b0 base : Nat} {spare : Nat → Bool} {held : Bool} {v : Value} {d : DataW H} {p : List MemPlace}
    (hv : Value.okWide Tryd.prog W r b0 200 v) (h : DataW.Trod enc Tryd.prog W base spare held 200 v d p) : ∃ e : NonceD, v = .agg (encNonce e).toArray ∧ tameNonce e := by
  obtain ⟨cs, rfl, _⟩ := okWide_struct (show Tryd.prog.underlying 200 = some (.struct #[_, _]) from Tryd.underlying200) hv
  obtain ⟨fuel, hf⟩ := h
  obtain ⟨e, he, ht⟩ := opened_Nonce hf
  exact ⟨e, by rw [← he]; rfl, ht⟩
end Go.Proofs.YtkpieeakiolomaaDoor

namespace Go.Proofs.YtkpieeakiolomaaDoor
open Go.ChangeShapes Go.WideShapes Go.ChangeAt Go.RowKit

theorem array9 {α : Type} {cs : Array α} (h : cs.size = 9) : ∃ c0 c1 c2 c3 c4 c5 c6 c7 c8, cs = #[c0, c1, c2, c3, c4, c5, c6, c7, c8] := by
  obtain ⟨l⟩ := cs
  match l, h with
  | [c0, c1, c2, c3, c4, c5, c6, c7, c8], _ => exact ⟨c0, c1, c2, c3, c4, c5, c6, c7, c8, rfl⟩

/-- A struct of four fields, the third of three cells, the fourth of four. -/
theorem open_nine {H : Type} {enc : TypeId × Value → H} {P : Program} {w : World} {base : Nat} {spare : Nat → Bool} {held : Bool} {r : Reach} {b0 : Nat} {t : TypeId} {f0 f1 f2 f3 : Field} {v : Value} {d : DataW H} {p : List MemPlace}
    (ht : P.underlying t = some (.struct #[f0, f1, f2, f3])) (hC : P.cellsOf t = 9) (k0 : f0.offset = 0 ∧ P.cellsOf f0.type = 1) (k1 : f1.offset = 1 ∧ P.cellsOf f1.type = 1) (k2 : f2.offset = 2 ∧ P.cellsOf f2.type = 3) (k3 : f3.offset = 5 ∧ P.cellsOf f3.type = 4)
    (hv : Value.okWide P w r b0 t v) (h : DataW.Trod enc P w base spare held t v d p) :
    ∃ (c0 c1 c2 c3 c4 c5 c6 c7 c8 : Value) (y0 y1 y2 y3 : DataW H × List MemPlace) (n : Nat), v = .agg #[c0, c1, c2, c3, c4, c5, c6, c7, c8] ∧ DataW.trod enc P w base spare held n f0.type [c0] = some y0 ∧ DataW.trod enc P w base spare held n f1.type [c1] = some y1 ∧ DataW.trod enc P w base spare held n f2.type [c2, c3, c4] = some y2 ∧ DataW.trod enc P w base spare held n f3.type [c5, c6, c7, c8] = some y3 := by
  obtain ⟨cs, rfl, hsz⟩ := okWide_struct ht hv
  obtain ⟨c0, c1, c2, c3, c4, c5, c6, c7, c8, rfl⟩ := array9 (hsz.trans hC)
  obtain ⟨fuel, hf⟩ := h
  obtain ⟨xs, n, _, _, _, hxl, hx⟩ := DataW.trod_struct ht hf
  obtain ⟨z0, z1, z2, z3, rfl⟩ : ∃ a b c d, xs = [a, b, c, d] := by
    match xs, hxl with
    | [a, b, c, d], _ => exact ⟨a, b, c, d, rfl⟩
  have h0 := hx 0 _ rfl
  have h1 := hx 1 _ rfl
  have h2 := hx 2 _ rfl
  have h3 := hx 3 _ rfl
  exact ⟨c0, c1, c2, c3, c4, c5, c6, c7, c8, _, _, _, _, n, rfl, by simpa [Value.cells, k0.1, k0.2] using h0, by simpa [Value.cells, k1.1, k1.2] using h1, by simpa [Value.cells, k2.1, k2.2] using h2, by simpa [Value.cells, k3.1, k3.2] using h3⟩

set_option maxRecDepth 100000 in
theorem open_Verifier {H : Type} {enc : TypeId × Value → H} {W : World} {r : Reach} {b0 base : Nat} {spare : Nat → Bool} {held : Bool} {v : Value} {d : DataW H} {p : List MemPlace}
    (hsp : ∀ k, spare k = true) (hv : Value.okWide Tryd.prog W r b0 41 v) (h : DataW.Trod enc Tryd.prog W base spare held 41 v d p) :
    ∃ (s rt : ByteArray) (num : Int) (re : List RefD) (wd : List (List UInt8)) (tk : ByteArray) (now next : Int) (ne : List NonceD) (a1 a2 a3 : Value), v = .agg #[.string s, .string rt, .int .i64 num, a1, a2, .string tk, .int .i64 now, .int .i64 next, a3] ∧ s.size ≤ 9223372036854775807 ∧ rt.size ≤ 9223372036854775807 ∧ FArg encRef 3 W a1 re ∧ (∀ e ∈ re, tameRef e) ∧ re.length ≤ maxLen ∧ ArgAt W a2 wd ∧ (∀ p ∈ wd, p.length ≤ 9223372036854775807) ∧ wd.length ≤ 9223372036854775807 ∧ tk.size ≤ 9223372036854775807 ∧ FArg encNonce 2 W a3 ne ∧ ne.length ≤ maxLen := by
  obtain ⟨c0, c1, c2, c3, c4, c5, c6, c7, c8, y0, y1, y2, y3, n, rfl, h0, h1, h2, h3⟩ := open_nine (show Tryd.prog.underlying 41 = some (.struct #[_, _, _, _]) from Tryd.underlying41) (by kernel_rfl) ⟨rfl, by kernel_rfl⟩ ⟨rfl, by kernel_rfl⟩ ⟨rfl, by kernel_rfl⟩ ⟨rfl, by kernel_rfl⟩ hv h
  obtain ⟨s, q0, _, w0⟩ := DataW.trod_string Tryd.underlying9 h0
  injection q0 with q0 _
  subst q0
  obtain ⟨rt, q1, _, w1⟩ := DataW.trod_string Tryd.underlying9 h1
  injection q1 with q1 _
  subst q1
  obtain ⟨_, n2, g2⟩ := trod_flat (show Tryd.prog.underlying 36 = some (.struct #[_, _, _]) from Tryd.underlying36) (by kernel_rfl) (by kernel_rfl) h2
  obtain ⟨_, n3, g3⟩ := trod_flat (show Tryd.prog.underlying 39 = some (.struct #[_, _, _, _]) from Tryd.underlying39) (by kernel_rfl) (by kernel_rfl) h3
  obtain ⟨v0, z0, e0, t0⟩ := g2 0 _ rfl
  simp at e0
  subst e0
  obtain ⟨num, q2, _, _⟩ := DataW.trod_int Tryd.underlying2 t0
  injection q2 with q2 _
  subst q2
  obtain ⟨v1, z1, e1, t1⟩ := g2 1 _ rfl
  simp at e1
  subst e1
  obtain ⟨re, ha1, hs1, hn1⟩ := arg_Refs t1 hsp
  obtain ⟨v2, z2, e2, t2⟩ := g2 2 _ rfl
  simp at e2
  subst e2
  obtain ⟨wd, ha2, hs2, hn2⟩ := arg_strs t2 hsp
  obtain ⟨v3, z3, e3, t3⟩ := g3 0 _ rfl
  simp at e3
  subst e3
  obtain ⟨tk, q3, _, w3⟩ := DataW.trod_string Tryd.underlying9 t3
  injection q3 with q3 _
  subst q3
  obtain ⟨v4, z4, e4, t4⟩ := g3 1 _ rfl
  simp at e4
  subst e4
  obtain ⟨now, q4, _, _⟩ := DataW.trod_int Tryd.underlying2 t4
  injection q4 with q4 _
  subst q4
  obtain ⟨v5, z5, e5, t5⟩ := g3 2 _ rfl
  simp at e5
  subst e5
  obtain ⟨next, q5, _, _⟩ := DataW.trod_int Tryd.underlying2 t5
  injection q5 with q5 _
  subst q5
  obtain ⟨v6, z6, e6, t6⟩ := g3 3 _ rfl
  simp at e6
  subst e6
  obtain ⟨ne, ha3, _, hn3⟩ := arg_Nonces t6 hsp
  unfold maxLen at w0 w1 w3
  exact ⟨s, rt, num, re, wd, tk, now, next, ne, _, _, _, rfl, w0, w1, ha1, hs1, hn1, ha2, hs2, hn2, w3, ha3, hn3⟩
end Go.Proofs.YtkpieeakiolomaaDoor
