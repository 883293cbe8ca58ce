/- Plain facts on rows of integers, by value and in memory: no condition but what each names. -/
import Derived.Test.YtknipcnlaaapoaaProg
import Derived.WalkKit
import Derived.WalkSpells
import Derived.WalkLawsBesides
import Derived.Lib.Hide
import Derived.Deep.MidRow
import Derived.Laws.CopyOwn
import Derived.Deep.QuietTactic
import Derived.BigQuiet
import Derived.RegionTactic
namespace Go.Proofs.Ytknipcnlaaapoaa
open Go.RowKit
open Go.Lib (hid)

/-- Integers as they lie in a row. -/
def ints (l : List Int) : List Value := l.map (Value.int .i64)

theorem ints_len (l : List Int) : (ints l).length = l.length := by simp [ints]

theorem ints_at (l : List Int) (i : Nat) (h : i < l.length) : (ints l)[i]? = some (.int .i64 l[i]) := by simp [ints, h]

theorem ints_append (a b : List Int) : ints (a ++ b) = ints a ++ ints b := by simp [ints]

theorem ints_one (l : List Int) : ∀ v ∈ ints l, v.oneCell' = true := by
  intro v hv
  obtain ⟨x, _, rfl⟩ := List.mem_map.1 hv
  rfl

/-- All numbers of a list lie in 0 .. a thousand million. -/
def Numb (l : List Int) : Prop := ∀ x ∈ l, 0 ≤ x ∧ x ≤ 1000000000

/-- The same as a test. -/
def numbB (l : List Int) : Bool := l.all fun x => decide (0 ≤ x ∧ x ≤ 1000000000)

theorem numbB_iff {l : List Int} : numbB l = true ↔ Numb l := by simp [numbB, Numb]

theorem numbB_no {l : List Int} (h : ¬ Numb l) : numbB l = false := by
  cases hb : numbB l with
  | false => rfl
  | true => exact absurd (numbB_iff.1 hb) h

theorem numb_sum {l : List Int} (h : Numb l) : 0 ≤ l.sum ∧ l.sum ≤ l.length * 1000000000 := by
  induction l with
  | nil => simp
  | cons a l ih =>
    have h1 := h a (by simp)
    have h2 := ih (fun x hx => h x (by simp [hx]))
    simp only [List.sum_cons, List.length_cons]
    omega

theorem numb_take {l : List Int} (h : Numb l) (i : Nat) : Numb (l.take i) := fun x hx => h x (List.mem_of_mem_take hx)

theorem numb_succ (l : List Int) (i : Nat) (h : i < l.length) : Numb (l.take (i + 1)) ↔ Numb (l.take i) ∧ 0 ≤ l[i] ∧ l[i] ≤ 1000000000 := by
  rw [List.take_succ_eq_append_getElem h]
  constructor
  · intro hn
    exact ⟨fun x hx => hn x (List.mem_append_left _ hx), hn l[i] (List.mem_append_right _ (List.mem_singleton.2 rfl))⟩
  · intro hn x hx
    rcases List.mem_append.1 hx with hx | hx
    · exact hn.1 x hx
    · obtain rfl := List.mem_singleton.1 hx; exact hn.2

theorem sum_take (l : List Int) (i : Nat) (h : i < l.length) : (l.take (i + 1)).sum = (l.take i).sum + l[i] := by
  rw [List.take_succ_eq_append_getElem h, List.sum_append]; simp

/-- 'a[i]' of an array of integers by value. -/
theorem run_index_ints {P : Program} (t e : TypeId) (l : List Int) (i : Nat) (hi : i < l.length) (hu : P.underlying t = some (.array l.length e)) (ha : ∀ w, (isAgg e).run P w = .ok false w) (hz : ∀ w, (sizeOf e).run P w = .ok 1 w) (w : World) :
    (Instr.index t (.agg (ints l).toArray) (.int .i64 i)).run P w = .ok (.int .i64 l[i]) w := by
  have h1 : (0 ≤ (i : Int) ∧ (i : Int) < (l.length : Int)) := by omega
  have h2 := ints_at l i hi
  simp [Instr.index, run_underlying hu, asIntOf, Sem.run_bind, part, ha, hz, hi, h2]
end Go.Proofs.Ytknipcnlaaapoaa
