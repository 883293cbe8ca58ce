/- Rows of writes: their cells, two held against each other, marks. -/
import Derived.Test.YtknipcnlaaapoaaNvHelp
import Derived.Deep.RegionHeld3
namespace Go.Proofs.Ytknipcnlaaapoaa
open Go.RowKit
open Go.Lib (hid)

/-- A row of n writes, its cells in order: a place, a value, a place, a value. -/
def WRow (w : World) (a : Value) (n : Nat) (F : List Int) : Prop :=
  F.length = 2 * n ∧ ∃ p c, a = .slice p n c ∧ n ≤ c ∧ (0 < n → ∃ g o, p = some ⟨g, o, none⟩ ∧ g < w.heap.size ∧ ∀ i (hi : i < F.length), w.cell? ⟨g, o + i, none⟩ = some (.int .i64 F[i]))

theorem WRow.on {w w' : World} {a : Value} {n : Nat} {F : List Int} (h : WRow w a n F) (hb : Below w.heap.size w w') : WRow w' a n F := by
  obtain ⟨h0, p, c, rfl, hc, hp⟩ := h
  refine ⟨h0, p, c, rfl, hc, fun hn => ?_⟩
  obtain ⟨g, o, rfl, hg, hcell⟩ := hp hn
  exact ⟨g, o, rfl, Nat.lt_of_lt_of_le hg hb.size, fun i hi => by rw [hb.cell (p := ⟨g, o + i, none⟩) hg]; exact hcell i hi⟩

theorem wrow_own {w : World} {base n : Nat} {a : Value} {F : List Int} (hF : F.length = 2 * n) (h : w.ownsRow base 61 2 a n (ints F)) : WRow w a n F := by
  refine ⟨hF, ?_⟩
  rcases h.2 with ⟨hv, hz⟩ | ⟨g, cap, cur, hv, hb, hg, hnc, _⟩
  · exact ⟨none, 0, by rw [hv, hz], by omega, fun h => by omega⟩
  · refine ⟨some ⟨g, 0, none⟩, cap, hv, hnc, fun _ => ⟨g, 0, rfl, (Array.getElem?_eq_some_iff.1 hg).1, fun i hi => ?_⟩⟩
    subst hv
    rw [Nat.zero_add, h.cellAt i (by omega), ints_at F i hi]

end Go.Proofs.Ytknipcnlaaapoaa
