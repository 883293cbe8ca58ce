/- A Vault that came in, opened. Written by a program of ours. -/
import Derived.Test.YtponjghppnpnhaaDoorArgStructKit
import Derived.Test.YtponjghppnpnhaaDoorArgSeal
namespace Go.Proofs.YtponjghppnpnhaaDoor
open Go.ChangeShapes Go.WideShapes Go.ChangeAt Go.RowKit

theorem array6 {α : Type} {cs : Array α} (h : cs.size = 6) : ∃ c0 c1 c2 c3 c4 c5, cs = #[c0, c1, c2, c3, c4, c5] := by
  obtain ⟨l⟩ := cs
  match l, h with
  | [c0, c1, c2, c3, c4, c5], _ => exact ⟨c0, c1, c2, c3, c4, c5, rfl⟩

/-- A struct of three fields, the third of four cells. -/
theorem open_six {H : Type} {enc : TypeId × Value → H} {P : Program} {w : World} {base : Nat} {spare : Nat → Bool} {held : Bool} {r : Reach} {b0 : Nat} {t : TypeId} {f0 f1 f2 : Field} {v : Value} {d : DataW H} {p : List MemPlace}
    (ht : P.underlying t = some (.struct #[f0, f1, f2])) (hC : P.cellsOf t = 6) (k0 : f0.offset = 0 ∧ P.cellsOf f0.type = 1) (k1 : f1.offset = 1 ∧ P.cellsOf f1.type = 1) (k2 : f2.offset = 2 ∧ P.cellsOf f2.type = 4)
    (hv : Value.okWide P w r b0 t v) (h : DataW.Trod enc P w base spare held t v d p) :
    ∃ (c0 c1 c2 c3 c4 c5 : Value) (y0 y1 y2 : DataW H × List MemPlace) (n : Nat), v = .agg #[c0, c1, c2, c3, c4, c5] ∧ DataW.trod enc P w base spare held n f0.type [c0] = some y0 ∧ DataW.trod enc P w base spare held n f1.type [c1] = some y1 ∧ DataW.trod enc P w base spare held n f2.type [c2, c3, c4, c5] = some y2 := by
  obtain ⟨cs, rfl, hsz⟩ := okWide_struct ht hv
  obtain ⟨c0, c1, c2, c3, c4, c5, rfl⟩ := array6 (hsz.trans hC)
  obtain ⟨fuel, hf⟩ := h
  obtain ⟨xs, n, _, _, _, hxl, hx⟩ := DataW.trod_struct ht hf
  obtain ⟨z0, z1, z2, rfl⟩ : ∃ a b c, xs = [a, b, c] := by
    match xs, hxl with
    | [a, b, c], _ => exact ⟨a, b, c, rfl⟩
  have h0 := hx 0 _ rfl
  have h1 := hx 1 _ rfl
  have h2 := hx 2 _ rfl
  exact ⟨c0, c1, c2, c3, c4, c5, _, _, _, n, rfl, by simpa [Value.cells, k0.1, k0.2] using h0, by simpa [Value.cells, k1.1, k1.2] using h1, by simpa [Value.cells, k2.1, k2.2] using h2⟩

set_option maxRecDepth 100000 in
theorem open_Vault {H : Type} {enc : TypeId × Value → H} {W : World} {r : Reach} {b0 base : Nat} {spare : Nat → Bool} {held : Bool} {v : Value} {d : DataW H} {p : List MemPlace}
    (hsp : ∀ k, spare k = true) (hv : Value.okWide Tryd.prog W r b0 64 v) (h : DataW.Trod enc Tryd.prog W base spare held 64 v d p) :
    ∃ (es : List SealD) (st : Int) (q : SealD) (a : Value), v = .agg #[a, .int .i64 st, .int .i64 q.x0, .int .i64 q.x1, .string q.x2, .string q.x3] ∧ FArg encSeal 4 W a es ∧ (∀ e ∈ es, tameSeal e) ∧ es.length ≤ maxLen ∧ tameSeal q := by
  obtain ⟨c0, c1, c2, c3, c4, c5, y0, y1, y2, n, rfl, h0, h1, h2⟩ := open_six (show Tryd.prog.underlying 64 = some (.struct #[_, _, _]) from Tryd.underlying64) (by kernel_rfl) ⟨rfl, by kernel_rfl⟩ ⟨rfl, by kernel_rfl⟩ ⟨rfl, by kernel_rfl⟩ hv h
  obtain ⟨es, g0, u0, n0⟩ := arg_Seals h0 hsp
  obtain ⟨st, hs, _, _⟩ := DataW.trod_int Tryd.underlying2 h1
  injection hs with hs _
  subst hs
  obtain ⟨q, hq, hqt⟩ := opened_Seal h2
  unfold encSeal at hq
  simp only [List.cons.injEq, and_true] at hq
  obtain ⟨rfl, rfl, rfl, rfl⟩ := hq
  exact ⟨es, st, q, c0, rfl, g0, u0, n0, hqt⟩
end Go.Proofs.YtponjghppnpnhaaDoor
