/- What a right Policy is, plainly; a row that is right, asked by both sides. -/
import Derived.Test.YtjaaplcgphlccaaGreatDoorNonceBoth
import Derived.Test.YtjaaplcgphlccaaGreatDoorRowRef
import Derived.Test.YtjaaplcgphlccaaGreatDoorRisingPlain
import Derived.Sort.Walk0
namespace Go.Proofs.YtjaaplcgphlccaaGreatDoor
open Go.RowKit
open Go.Lib (hid)

def refB (e : RefD) : Bool := decide (0 ≤ e.x0 ∧ e.x0 ≤ 15) && (nameB e.x1.data.toList && decide (0 ≤ e.x2 ∧ e.x2 ≤ 1000000000))

def sameK (a b : RefD) : Prop := a.x0 = b.x0 ∧ a.x1.data.toList = b.x1.data.toList

instance (a b : RefD) : Decidable (sameK a b) := by unfold sameK; infer_instance

/-- None of the rows ahead has the key of the one at a place. -/
def apartB (es : List RefD) (i n : Nat) : Bool := (List.range n).all fun k => decide (¬ sameK (es.getD k zRef) (es.getD i zRef))

def rowGood (es : List RefD) (i : Nat) : Bool := refB (es.getD i zRef) && apartB es i i

def rowsB (es : List RefD) (n : Nat) : Bool := (List.range n).all (rowGood es)

theorem allr_succ (f : Nat → Bool) (n : Nat) : (List.range (n + 1)).all f = ((List.range n).all f && f n) := by
  rw [List.range_succ, List.all_append]
  simp

theorem allr_no {f : Nat → Bool} {n m : Nat} (h : f n = false) (hm : n < m) : (List.range m).all f = false := by
  rw [Bool.eq_false_iff]
  intro ht
  rw [List.all_eq_true] at ht
  have := ht n (List.mem_range.2 hm)
  rw [h] at this
  cases this

theorem ref_at {es : List RefD} {i : Nat} (h : i < es.length) : es.getD i zRef = es[i] := by simp [List.getD, h]

/-- Is the text at a place a term, and behind the one ahead of it. -/
def risGood (ps : List (List UInt8)) (i : Nat) : Bool := decide ((nodeOf (bytesOf (ps.getD i []))).1 ≠ 0) && decide (0 < i → ps.getD (i - 1) [] < ps.getD i [])

def risB (ps : List (List UInt8)) (n : Nat) : Bool := (List.range n).all (risGood ps)

theorem txt_at {ps : List (List UInt8)} {i : Nat} (h : i < ps.length) : ps.getD i [] = ps[i] := by simp [List.getD, h]

/-- Is it a right Policy. -/
def polB (num : Int) (es : List RefD) (ps : List (List UInt8)) : Bool :=
  decide (0 ≤ num ∧ num ≤ 1000000000) && (decide (es.length ≤ 60) && (decide (ps.length ≤ 60) && (rowsB es es.length && risB ps ps.length)))

/-- Texts held against each other, as the walk asks it. -/
theorem leq_yes {x y : List UInt8} (h : ¬ y < x) : (Op.bytesLess (bytesOf x).toList (bytesOf y).toList || (bytesOf x).toList == (bytesOf y).toList) = true := by
  rw [ByteArray.toList_eq, ByteArray.toList_eq, bytesLess_eq, Bool.or_eq_true]
  show decide (x < y) = true ∨ (x == y) = true
  by_cases he : x = y
  · exact Or.inr (by rw [he]; simp)
  · refine Or.inl (decide_eq_true ?_)
    have hle : x ≤ y := List.not_lt.1 h
    rcases Classical.em (x < y) with h2 | h2
    · exact h2
    · exact absurd (List.le_antisymm hle (List.not_lt.1 h2)) he

theorem leq_no {x y : List UInt8} (h : y < x) : (Op.bytesLess (bytesOf x).toList (bytesOf y).toList || (bytesOf x).toList == (bytesOf y).toList) = false := by
  rw [ByteArray.toList_eq, ByteArray.toList_eq, bytesLess_eq, Bool.or_eq_false_iff]
  show decide (x < y) = false ∧ (x == y) = false
  refine ⟨decide_eq_false (fun e => List.lt_irrefl _ (List.lt_trans h e)), ?_⟩
  rw [beq_eq_false_iff_ne]
  intro e
  rw [e] at h
  exact List.lt_irrefl _ h

theorem three_refs {W : World} {b : Nat} {x0 x1 x2 : Value} {t : TypeId} (h : W.heap[b]? = some (.cells #[x0, x1, x2] t)) :
    W.cell? ⟨b, 0, none⟩ = some x0 ∧ W.cell? ⟨b, 1, none⟩ = some x1 ∧ W.cell? ⟨b, 2, none⟩ = some x2 :=
  ⟨(cell_of_row W b 0 _ _ _ h).trans rfl, (cell_of_row W b 1 _ _ _ h).trans rfl, (cell_of_row W b 2 _ _ _ h).trans rfl⟩

end Go.Proofs.YtjaaplcgphlccaaGreatDoor
