/- The helpers of the laws on an Nv: two held against each other, marks. -/
import Derived.Test.YtknipcnlaaapoaaBase
import Derived.Test.YtknipcnlaaapoaaIntHelp
namespace Go.Proofs.Ytknipcnlaaapoaa
open Go.RowKit
open Go.Lib (hid)

theorem var_cells {W : World} {b : Nat} {x y : Value} {t : TypeId} {fr : Nat × Nat} (h : W.heap[b]? = some (.cells #[x, y] t fr)) : W.cell? ⟨b, 0, none⟩ = some x ∧ W.cell? ⟨b, 1, none⟩ = some y :=
  ⟨(cell_of_row W b 0 _ _ _ h).trans rfl, (cell_of_row W b 1 _ _ _ h).trans rfl⟩
end Go.Proofs.Ytknipcnlaaapoaa
