/- What a right Table is, plainly. -/
import Derived.Test.YtainpghedbhepaaDoorNonceBoth
import Derived.Test.YtainpghedbhepaaDoorRowNonce
namespace Go.Proofs.YtainpghedbhepaaDoor
open Go.RowKit
open Go.Lib (hid)

/-- Is the nonce at a place fine, and behind the one ahead of it. -/
def ncGood (now next : Int) (es : List NonceD) (i : Nat) : Bool :=
  decide ((0 ≤ (es.getD i zNonce).x0 ∧ (es.getD i zNonce).x0 ≤ next - 1) ∧ (0 ≤ (es.getD i zNonce).x1 ∧ (es.getD i zNonce).x1 ≤ now) ∧ (0 < i → (es.getD (i - 1) zNonce).x0 < (es.getD i zNonce).x0 ∧ (es.getD (i - 1) zNonce).x1 ≤ (es.getD i zNonce).x1))

def ncAll (now next : Int) (es : List NonceD) (n : Nat) : Bool := (List.range n).all (ncGood now next es)

theorem ncAll_succ (now next : Int) (es : List NonceD) (n : Nat) : ncAll now next es (n + 1) = (ncAll now next es n && ncGood now next es n) := by
  unfold ncAll
  rw [List.range_succ, List.all_append]
  simp

theorem ncAll_no {now next : Int} {es : List NonceD} {n m : Nat} (h : ncGood now next es n = false) (hm : n < m) : ncAll now next es m = false := by
  unfold ncAll
  rw [Bool.eq_false_iff]
  intro ht
  rw [List.all_eq_true] at ht
  have := ht n (List.mem_range.2 hm)
  rw [h] at this
  cases this

/-- Is it a right Table. -/
def tabB (key : List UInt8) (now next : Int) (es : List NonceD) : Bool :=
  secretB key && (decide (0 ≤ now ∧ now ≤ 1000000000) && (decide (0 ≤ next ∧ next ≤ 1000000000) && (decide (es.length ≤ 8) && ncAll now next es es.length)))

theorem nc_at {es : List NonceD} {i : Nat} (h : i < es.length) : es.getD i zNonce = es[i] := by simp [List.getD, h]

theorem four_cells {W : World} {b : Nat} {x0 x1 x2 x3 : Value} {t : TypeId} (h : W.heap[b]? = some (.cells #[x0, x1, x2, x3] t)) :
    W.cell? ⟨b, 0, none⟩ = some x0 ∧ W.cell? ⟨b, 1, none⟩ = some x1 ∧ W.cell? ⟨b, 2, none⟩ = some x2 ∧ W.cell? ⟨b, 3, none⟩ = some x3 :=
  ⟨(cell_of_row W b 0 _ _ _ h).trans rfl, (cell_of_row W b 1 _ _ _ h).trans rfl, (cell_of_row W b 2 _ _ _ h).trans rfl, (cell_of_row W b 3 _ _ _ h).trans rfl⟩
end Go.Proofs.YtainpghedbhepaaDoor
