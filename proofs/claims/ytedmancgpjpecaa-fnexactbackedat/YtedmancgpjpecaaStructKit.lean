/- What the helpers of structs of scalars and rows share. Plain; no condition but what each names. -/
import Derived.Test.YtedmancgpjpecaaMarkOne
import Derived.Test.YtedmancgpjpecaaFlatRow
import Derived.OneCell
namespace Go.Proofs.Ytedmancgpjpecaa
open Go.RowKit
open Go.Lib (hid)

theorem st_first {w : World} (x y z : Obj) : (((w.alloc x).alloc y).alloc z).heap[w.heap.size]? = some x := by
  have h := heap_alloc_new w x
  rw [(((Below.refl (w.alloc x).heap.size (w.alloc x)).alloc (Nat.le_refl _) y).alloc (by simp) z).block _ (by simp)]
  exact h

theorem st_mid {w : World} (x y z : Obj) : (((w.alloc x).alloc y).alloc z).heap[w.heap.size + 1]? = some y := by
  have h := heap_alloc_new (w.alloc x) y
  have h2 : ((w.alloc x).alloc y).heap[w.heap.size + 1]? = some y := by simpa using h
  rw [((Below.refl ((w.alloc x).alloc y).heap.size ((w.alloc x).alloc y)).alloc (Nat.le_refl _) z).block _ (by simp)]
  exact h2

theorem st_last {w : World} (x y z : Obj) : (((w.alloc x).alloc y).alloc z).heap[w.heap.size + 1 + 1]? = some z := by
  have h := heap_alloc_new ((w.alloc x).alloc y) z
  simpa using h

theorem st_two {w : World} (x y : Obj) : ((w.alloc x).alloc y).heap[w.heap.size + 1]? = some y := by
  have h := heap_alloc_new (w.alloc x) y
  simpa using h

theorem st_one {w : World} (x y : Obj) : ((w.alloc x).alloc y).heap[w.heap.size]? = some x := by
  have h := heap_alloc_new w x
  rw [((Below.refl (w.alloc x).heap.size (w.alloc x)).alloc (Nat.le_refl _) y).block _ (by simp)]
  exact h

theorem st_lower {w : World} {base base' size n : Nat} {e : TypeId} {v : Value} {xs : List Value} (h : w.ownsRow base e size v n xs) (hb : base' ≤ base) : w.ownsRow base' e size v n xs :=
  ⟨h.1, h.2.imp id fun ⟨g, cap, cur, a1, a2, a3⟩ => ⟨g, cap, cur, a1, Nat.le_trans hb a2, a3⟩⟩

theorem st_thaw {W : World} {b : Nat} {V : Array Value} {t : TypeId} (h : W.heap[b]? = some (.cells V t)) (o : Nat) : W.frozen? ⟨b, o, none⟩ = false := by simp [World.frozen?, h]

theorem st_below {B : Nat} {a b c : World} (h : Below B a b) (hB : B ≤ a.heap.size) (k : Below b.heap.size b c) : Below B a c := h.trans (k.mono (Nat.le_trans hB h.size))

end Go.Proofs.Ytedmancgpjpecaa
