/- A drawn Nv. -/
import Derived.Test.YtknipcnlaaapoaaDrawNumbers
import Derived.Test.YtknipcnlaaapoaaNvNewBoth
import Derived.Test.YtknipcnlaaapoaaTornGen
namespace Go.Proofs.Ytknipcnlaaapoaa
open Go.RowKit
open Go.Lib (hid)

theorem nv_box_put {W : World} {b : Nat} {x y : Value} {t : TypeId} (h : W.heap[b]? = some (.cells #[x, y] t)) (u v : Value) : ((W.setCell ⟨b, 0, none⟩ u).setCell ⟨b, 1, none⟩ v).heap[b]? = some (.cells #[u, v] t) :=
  heap_setCell_same _ b 1 _ _ v (heap_setCell_same W b 0 _ _ u h)

theorem nv_far {b g : Nat} {u v : World} (h : Step b u v) (hg : u.heap.size ≤ g) (o : Nat) (x : Value) : Step b u (v.setCell ⟨g, o, none⟩ x) :=
  ⟨h.os, h.tape, h.output, by have := h.size; simpa [World.setCell] using this, fun k hk hb => (Below.heap_setCell v ⟨g, o, none⟩ x k (by show k ≠ g; omega)).trans (h.block k hk hb)⟩

/-- Where the drawing of an Nv stands: the box of what stands, its row. -/
structure NvG (w : World) (b : Nat) (q : Option Addr) (n c : Nat) (vb g cap : Nat) (m : Int) (W : List Int) (wr : World) : Prop where
  box : wr.heap[vb]? = some (.cells #[.int .i64 m, .slice (some ⟨g, 0, none⟩) W.length cap] 26)
  row : wr.ownsRow w.heap.size 2 1 (.slice (some ⟨g, 0, none⟩) W.length cap) W.length (ints W)
  far : vb ≠ g
  here : w.heap.size ≤ vb
  reader : Rd wr b q n c
  step : Step b w wr

theorem NvG.call {w : World} {b : Nat} {q : Option Addr} {n c vb g cap : Nat} {m : Int} {W : List Int} {wr w' : World} (h : NvG w b q n c vb g cap m W wr) (hb : b < w.heap.size) (hr : Rd w' b q n c) (hs : Step b wr w') : NvG w b q n c vb g cap m W w' :=
  ⟨(hs.block vb (Array.getElem?_eq_some_iff.1 h.box).1 (by have := h.here; omega)).trans h.box, nv_own_step h.row hb hs, h.far, h.here, hr, h.step.trans hs⟩

theorem NvG.on {w : World} {b : Nat} {q : Option Addr} {n c vb g cap : Nat} {m : Int} {W : List Int} {wr w' : World} (h : NvG w b q n c vb g cap m W wr) (hb : b < w.heap.size) (hs : Below wr.heap.size wr w') : NvG w b q n c vb g cap m W w' :=
  h.call hb (h.reader.below hs) (nv_belowF (Step.refl _ _) hs)

theorem nv_set_rd {w wr : World} {b : Nat} {q : Option Addr} {n c : Nat} (h : Rd wr b q n c) (hb : b < w.heap.size) (hq : ∀ ad, q = some ad → ad.block < w.heap.size ∨ n = 0) {g : Nat} (hg : w.heap.size ≤ g) (o : Nat) (u : Value) : Rd (wr.setCell ⟨g, o, none⟩ u) b q n c :=
  nv_under h hb ((Below.refl _ _).setCell (p := ⟨g, o, none⟩) hg _) hq

/-- What stands is put into the box. -/
theorem NvG.make {w : World} {b : Nat} {q : Option Addr} {n c vb g2 cap2 : Nat} {m2 : Int} {W2 : List Int} {wr : World} {x y : Value} (hbox : wr.heap[vb]? = some (.cells #[x, y] 26)) (here : w.heap.size ≤ vb) (hr : Rd wr b q n c) (hs : Step b w wr) (hb : b < w.heap.size) (hq : ∀ ad, q = some ad → ad.block < w.heap.size ∨ n = 0)
    (hrow : wr.ownsRow w.heap.size 2 1 (.slice (some ⟨g2, 0, none⟩) W2.length cap2) W2.length (ints W2)) (hne : vb ≠ g2) :
    NvG w b q n c vb g2 cap2 m2 W2 ((wr.setCell ⟨vb, 0, none⟩ (.int .i64 m2)).setCell ⟨vb, 1, none⟩ (.slice (some ⟨g2, 0, none⟩) W2.length cap2)) := by
  refine ⟨nv_box_put hbox _ _, ?_, hne, here, nv_set_rd (nv_set_rd hr hb hq here 0 _) hb hq here 1 _, nv_far (nv_far hs here 0 _) here 1 _⟩
  have hn : (Value.slice (some ⟨g2, 0, none⟩) W2.length cap2).ownBlock ≠ some vb := by
    show some g2 ≠ some vb
    intro e
    exact hne (Option.some.inj e).symm
  exact ownsRow_setCell_other (ownsRow_setCell_other hrow (a := ⟨vb, 0, none⟩) hn _) (a := ⟨vb, 1, none⟩) hn _

theorem NvG.start {w : World} {b : Nat} {q : Option Addr} {n c g cap : Nat} {m : Int} {W : List Int} {wr : World} (hr : Rd wr b q n c) (hs : Step b w wr) (hg : g < wr.heap.size)
    (hrow : wr.ownsRow w.heap.size 2 1 (.slice (some ⟨g, 0, none⟩) W.length cap) W.length (ints W)) :
    NvG w b q n c wr.heap.size g cap m W (wr.alloc (.cells #[.int .i64 m, .slice (some ⟨g, 0, none⟩) W.length cap] 26)) :=
  ⟨heap_alloc_new _ _, hrow.alloc _, by omega, hs.size, hr.below ((Below.refl _ _).alloc (Nat.le_refl _) _), hs.alloc _⟩

/-- What a drawn Nv is. -/
def DrawnNv (b : Nat) (q : Option Addr) (n c : Nat) (w : World) (e : Ending) (w' : World) : Prop :=
  ∃ (s : Int) (W : List Int) (sv : Value), e = .returned (.agg #[.int .i64 s, sv]) ∧ (-9223372036854775808 ≤ s ∧ s ≤ 9223372036854775807) ∧ W.length ≤ 100 ∧ RowIn w' sv W ∧ (∀ g o k2 c2, sv = .slice (some ⟨g, o, none⟩) k2 c2 → w.heap.size < g) ∧ Rd w' b q n c ∧ Step b w w'

theorem drawn_nv {b : Nat} {q : Option Addr} {n c : Nat} {w : World} {e : Ending} {w' : World} (s : Int) (W : List Int) (sv : Value) (h1 : e = .returned (.agg #[.int .i64 s, sv])) (h2 : -9223372036854775808 ≤ s ∧ s ≤ 9223372036854775807) (h3 : W.length ≤ 100) (h4 : RowIn w' sv W) (h7 : ∀ g o k2 c2, sv = .slice (some ⟨g, o, none⟩) k2 c2 → w.heap.size < g) (h5 : Rd w' b q n c) (h6 : Step b w w') : DrawnNv b q n c w e w' :=
  ⟨s, W, sv, h1, h2, h3, h4, h7, h5, h6⟩
end Go.Proofs.Ytknipcnlaaapoaa
