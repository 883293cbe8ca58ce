/- A Device that came in, opened: its name, its Root, its Vault, its images, its events. -/
import Derived.Test.YtnkaabgjfdbdoaaGreatDoorArgRoot
import Derived.Test.YtnkaabgjfdbdoaaGreatDoorPackArg
import Derived.Test.YtnkaabgjfdbdoaaGreatDoorPackAr
import Derived.Test.YtnkaabgjfdbdoaaGreatDoorArgEvent
namespace Go.Proofs.YtnkaabgjfdbdoaaGreatDoor
open Go.ChangeShapes Go.WideShapes Go.ChangeAt Go.RowKit

theorem array14 {α : Type} {cs : Array α} (h : cs.size = 14) : ∃ c0 c1 c2 c3 c4 c5 c6 c7 c8 c9 c10 c11 c12 c13, cs = #[c0, c1, c2, c3, c4, c5, c6, c7, c8, c9, c10, c11, c12, c13] := by
  obtain ⟨l⟩ := cs
  match l, h with
  | [c0, c1, c2, c3, c4, c5, c6, c7, c8, c9, c10, c11, c12, c13], _ => exact ⟨c0, c1, c2, c3, c4, c5, c6, c7, c8, c9, c10, c11, c12, c13, rfl⟩

/-- A struct of five fields, the second of five cells, the third of six. -/
theorem open_fourteen {H : Type} {enc : TypeId × Value → H} {P : Program} {w : World} {base : Nat} {spare : Nat → Bool} {held : Bool} {r : Reach} {b0 : Nat} {t : TypeId} {f0 f1 f2 f3 f4 : Field} {v : Value} {d : DataW H} {p : List MemPlace}
    (ht : P.underlying t = some (.struct #[f0, f1, f2, f3, f4])) (hC : P.cellsOf t = 14) (k0 : f0.offset = 0 ∧ P.cellsOf f0.type = 1) (k1 : f1.offset = 1 ∧ P.cellsOf f1.type = 5) (k2 : f2.offset = 6 ∧ P.cellsOf f2.type = 6) (k3 : f3.offset = 12 ∧ P.cellsOf f3.type = 1) (k4 : f4.offset = 13 ∧ P.cellsOf f4.type = 1)
    (hv : Value.okWide P w r b0 t v) (h : DataW.Trod enc P w base spare held t v d p) :
    ∃ (c0 c1 c2 c3 c4 c5 c6 c7 c8 c9 c10 c11 c12 c13 : Value) (y0 y1 y2 y3 y4 : DataW H × List MemPlace) (n : Nat), v = .agg #[c0, c1, c2, c3, c4, c5, c6, c7, c8, c9, c10, c11, c12, c13] ∧ DataW.trod enc P w base spare held n f0.type [c0] = some y0 ∧ DataW.trod enc P w base spare held n f1.type [c1, c2, c3, c4, c5] = some y1 ∧ DataW.trod enc P w base spare held n f2.type [c6, c7, c8, c9, c10, c11] = some y2 ∧ DataW.trod enc P w base spare held n f3.type [c12] = some y3 ∧ DataW.trod enc P w base spare held n f4.type [c13] = some y4 := by
  obtain ⟨cs, rfl, hsz⟩ := okWide_struct ht hv
  obtain ⟨c0, c1, c2, c3, c4, c5, c6, c7, c8, c9, c10, c11, c12, c13, rfl⟩ := array14 (hsz.trans hC)
  obtain ⟨fuel, hf⟩ := h
  obtain ⟨xs, n, _, _, _, hxl, hx⟩ := DataW.trod_struct ht hf
  obtain ⟨z0, z1, z2, z3, z4, rfl⟩ : ∃ a b c d e, xs = [a, b, c, d, e] := by
    match xs, hxl with
    | [a, b, c, d, e], _ => exact ⟨a, b, c, d, e, rfl⟩
  have h0 := hx 0 _ rfl
  have h1 := hx 1 _ rfl
  have h2 := hx 2 _ rfl
  have h3 := hx 3 _ rfl
  have h4 := hx 4 _ rfl
  exact ⟨c0, c1, c2, c3, c4, c5, c6, c7, c8, c9, c10, c11, c12, c13, _, _, _, _, _, n, rfl, by simpa [Value.cells, k0.1, k0.2] using h0, by simpa [Value.cells, k1.1, k1.2] using h1, by simpa [Value.cells, k2.1, k2.2] using h2, by simpa [Value.cells, k3.1, k3.2] using h3, by simpa [Value.cells, k4.1, k4.2] using h4⟩

theorem cells_five {H : Type} {enc : TypeId × Value → H} {P : Program} {w : World} {base : Nat} {spare : Nat → Bool} {held : Bool} {t : TypeId} {f0 f1 f2 f3 : Field} {n : Nat} {c0 c1 c2 c3 c4 : Value} {x : DataW H × List MemPlace}
    (ht : P.underlying t = some (.struct #[f0, f1, f2, f3])) (k0 : f0.offset = 0 ∧ P.cellsOf f0.type = 1) (k1 : f1.offset = 1 ∧ P.cellsOf f1.type = 2) (k2 : f2.offset = 3 ∧ P.cellsOf f2.type = 1) (k3 : f3.offset = 4 ∧ P.cellsOf f3.type = 1)
    (h : DataW.trod enc P w base spare held n t [c0, c1, c2, c3, c4] = some x) :
    ∃ (y0 y1 y2 y3 : DataW H × List MemPlace) (m : Nat), DataW.trod enc P w base spare held m f0.type [c0] = some y0 ∧ DataW.trod enc P w base spare held m f1.type [c1, c2] = some y1 ∧ DataW.trod enc P w base spare held m f2.type [c3] = some y2 ∧ DataW.trod enc P w base spare held m f3.type [c4] = some y3 := by
  obtain ⟨xs, m, _, _, _, hxl, hx⟩ := DataW.trod_struct ht h
  obtain ⟨z0, z1, z2, z3, rfl⟩ : ∃ a b c d, xs = [a, b, c, d] := by
    match xs, hxl with
    | [a, b, c, d], _ => exact ⟨a, b, c, d, rfl⟩
  have h0 := hx 0 _ rfl
  have h1 := hx 1 _ rfl
  have h2 := hx 2 _ rfl
  have h3 := hx 3 _ rfl
  exact ⟨_, _, _, _, m, by simpa [k0.1, k0.2] using h0, by simpa [k1.1, k1.2] using h1, by simpa [k2.1, k2.2] using h2, by simpa [k3.1, k3.2] using h3⟩

theorem cells_six {H : Type} {enc : TypeId × Value → H} {P : Program} {w : World} {base : Nat} {spare : Nat → Bool} {held : Bool} {t : TypeId} {f0 f1 f2 : Field} {n : Nat} {c0 c1 c2 c3 c4 c5 : Value} {x : DataW H × List MemPlace}
    (ht : P.underlying t = some (.struct #[f0, f1, f2])) (k0 : f0.offset = 0 ∧ P.cellsOf f0.type = 1) (k1 : f1.offset = 1 ∧ P.cellsOf f1.type = 1) (k2 : f2.offset = 2 ∧ P.cellsOf f2.type = 4)
    (h : DataW.trod enc P w base spare held n t [c0, c1, c2, c3, c4, c5] = some x) :
    ∃ (y0 y1 y2 : DataW H × List MemPlace) (m : Nat), DataW.trod enc P w base spare held m f0.type [c0] = some y0 ∧ DataW.trod enc P w base spare held m f1.type [c1] = some y1 ∧ DataW.trod enc P w base spare held m f2.type [c2, c3, c4, c5] = some y2 := by
  obtain ⟨xs, m, _, _, _, hxl, hx⟩ := DataW.trod_struct ht h
  obtain ⟨z0, z1, z2, rfl⟩ : ∃ a b c, xs = [a, b, c] := by
    match xs, hxl with
    | [a, b, c], _ => exact ⟨a, b, c, rfl⟩
  have h0 := hx 0 _ rfl
  have h1 := hx 1 _ rfl
  have h2 := hx 2 _ rfl
  exact ⟨_, _, _, m, by simpa [k0.1, k0.2] using h0, by simpa [k1.1, k1.2] using h1, by simpa [k2.1, k2.2] using h2⟩

set_option maxRecDepth 100000 in
theorem open_Device {H : Type} {enc : TypeId × Value → H} {W : World} {r : Reach} {b0 base : Nat} {spare : Nat → Bool} {held : Bool} {v : Value} {d : DataW H} {p : List MemPlace}
    (hsp : ∀ k, spare k = true) (hv : Value.okWide Tryz.prog W r b0 36 v) (h : DataW.Trod enc Tryz.prog W base spare held 36 v d p) :
    ∃ (name key : ByteArray) (sz : Int) (l : List Int) (up : Bool) (ps : List (List UInt8)) (ss : List SealD) (st : Int) (q : SealD) (ims : List ImageD) (es : List EventD) (a1 a2 a3 a4 a5 : Value),
      v = .agg #[.string name, .string key, .int .i64 sz, a1, .bool up, a2, a3, .int .i64 st, .int .i64 q.x0, .int .i64 q.x1, .string q.x2, .string q.x3, a4, a5] ∧ name.size ≤ 9223372036854775807 ∧ key.size ≤ 9223372036854775807 ∧ (l.length ≤ maxLen ∧ ArgInts W a1 l) ∧ (ArgAt W a2 ps ∧ (∀ p ∈ ps, p.length ≤ 9223372036854775807) ∧ ps.length ≤ 9223372036854775807) ∧ (FArg encSeal 4 W a3 ss ∧ (∀ e ∈ ss, tameSeal e) ∧ ss.length ≤ maxLen) ∧ tameSeal q ∧ (FArg encImage 2 W a4 ims ∧ (∀ e ∈ ims, tameImage e) ∧ ims.length ≤ maxLen) ∧ (FArg encEvent 2 W a5 es ∧ (∀ e ∈ es, tameEvent e) ∧ es.length ≤ maxLen) := by
  obtain ⟨c0, c1, c2, c3, c4, c5, c6, c7, c8, c9, c10, c11, c12, c13, y0, y1, y2, y3, y4, n, rfl, h0, h1, h2, h3, h4⟩ := open_fourteen (show Tryz.prog.underlying 36 = some (.struct #[_, _, _, _, _]) from Tryz.underlying36) (by kernel_rfl) ⟨rfl, by kernel_rfl⟩ ⟨rfl, by kernel_rfl⟩ ⟨rfl, by kernel_rfl⟩ ⟨rfl, by kernel_rfl⟩ ⟨rfl, by kernel_rfl⟩ hv h
  obtain ⟨name, e0, _, w0⟩ := DataW.trod_string Tryz.underlying9 h0
  injection e0 with e0 _
  subst e0
  obtain ⟨_, _, _, _, n1, r0, r1, r2, r3⟩ := cells_five (show Tryz.prog.underlying 27 = some (.struct #[_, _, _, _]) from Tryz.underlying27) ⟨rfl, by kernel_rfl⟩ ⟨rfl, by kernel_rfl⟩ ⟨rfl, by kernel_rfl⟩ ⟨rfl, by kernel_rfl⟩ h1
  obtain ⟨key, e1, _, w1⟩ := DataW.trod_string Tryz.underlying9 r0
  injection e1 with e1 _
  subst e1
  obtain ⟨_, _, n2, v0, v1⟩ := open_pair (show Tryz.prog.underlying 24 = some (.struct #[_, _]) from Tryz.underlying24) ⟨rfl, by kernel_rfl⟩ ⟨rfl, by kernel_rfl⟩ r1
  obtain ⟨sz, e2, _, _⟩ := DataW.trod_int Tryz.underlying2 v0
  injection e2 with e2 _
  subst e2
  obtain ⟨l, hl, ha1⟩ := arg_ints v1 hsp
  obtain ⟨up, e4, _⟩ := DataW.trod_bool Tryz.underlying4 r2
  injection e4 with e4 _
  subst e4
  obtain ⟨ps, ha2, hs2, hn2⟩ := arg_texts r3 hsp
  obtain ⟨_, _, _, n3, s0, s1, s2⟩ := cells_six (show Tryz.prog.underlying 32 = some (.struct #[_, _, _]) from Tryz.underlying32) ⟨rfl, by kernel_rfl⟩ ⟨rfl, by kernel_rfl⟩ ⟨rfl, by kernel_rfl⟩ h2
  obtain ⟨ss, g3, u3, n3'⟩ := arg_Seals s0 hsp
  obtain ⟨st, e3, _, _⟩ := DataW.trod_int Tryz.underlying2 s1
  injection e3 with e3 _
  subst e3
  obtain ⟨q, hq, hqt⟩ := opened_Seal s2
  unfold encSeal at hq
  simp only [List.cons.injEq, and_true] at hq
  obtain ⟨rfl, rfl, rfl, rfl⟩ := hq
  obtain ⟨ims, g4, u4, n4⟩ := arg_Images h3 hsp
  obtain ⟨es, g5, u5, n5⟩ := arg_Events h4 hsp
  unfold maxLen at w0 w1
  exact ⟨name, key, sz, l, up, ps, ss, st, q, ims, es, _, _, _, _, _, rfl, w0, w1, ⟨hl, ha1⟩, ⟨ha2, hs2, hn2⟩, ⟨g3, u3, n3'⟩, hqt, ⟨g4, u4, n4⟩, ⟨g5, u5, n5⟩⟩
end Go.Proofs.YtnkaabgjfdbdoaaGreatDoor
