/- The small helpers of the laws on slices of texts: the text of a mark, two rows of texts held against each other, and a row that bears marks. -/
import Derived.Test.YtemjfhgjdiijkaaDoorBase
import Derived.Test.YtemjfhgjdiijkaaDoorSpecKind
import Derived.Test.YtemjfhgjdiijkaaDoorAppendWhere
import Derived.Lib.ItoaNum
namespace Go.Proofs.YtemjfhgjdiijkaaDoor
open Go.RowKit
open Go.Lib (hid)

theorem cat_bytes (a b : List UInt8) : (⟨a.toArray⟩ : ByteArray) ++ ⟨b.toArray⟩ = ⟨(a ++ b).toArray⟩ := by
  apply ByteArray.ext
  simp

/-- The digits of a number, none for 0. -/
def dd (m : Nat) : List UInt8 := if m = 0 then [] else Lib.decDigits m

theorem dd_zero : dd 0 = [] := by simp [dd]

theorem dd_step (m : Nat) (h : 0 < m) : dd m = dd (m / 10) ++ [UInt8.ofNat (48 + m % 10)] := by
  unfold dd
  rw [if_neg (by omega), Lib.decDigits]
  by_cases h10 : m < 10
  · rw [dif_pos h10, if_pos (by omega), Nat.mod_eq_of_lt h10]; rfl
  · rw [dif_neg h10, if_neg (by omega)]

theorem dd_len (n : Nat) : (dd n).length ≤ n := by
  induction n using Nat.strongRecOn with
  | ind n ih =>
    by_cases h : n = 0
    · subst h; rw [dd_zero]; simp
    · have := ih (n / 10) (by omega)
      rw [dd_step n (by omega)]
      simp
      omega

theorem dd_round (n m : Nat) (s : List UInt8) (h : 0 < m) (hs : dd m ++ s = dd n) : dd (m / 10) ++ (UInt8.ofNat (48 + m % 10) :: s) = dd n := by
  rw [← hs, dd_step m h, List.append_assoc]; rfl

/-- The text of a mark. -/
def mtext (k : Nat) : List UInt8 := 109 :: dd k

/-- The marks from k on, so many. -/
def marks (k n : Nat) : List (List UInt8) := (List.range n).map fun i => mtext (k + i)

theorem marks_len (k n : Nat) : (marks k n).length = n := by simp [marks]

theorem marks_at (k n i : Nat) (h : i < n) : (marks k n)[i]? = some (mtext (k + i)) := by simp [marks, h]

/-- A row of texts. -/
def TextsAt (w : World) (sv : Value) (ps : List (List UInt8)) : Prop :=
  ∃ p c, sv = .slice p ps.length c ∧ (ps ≠ [] → ∃ g, p = some ⟨g, 0, none⟩ ∧ KRow w g ps)

theorem TextsAt.on {w w' : World} {sv : Value} {ps : List (List UInt8)} (h : TextsAt w sv ps) (hb : Below w.heap.size w w') : TextsAt w' sv ps := by
  obtain ⟨p, c, rfl, hp⟩ := h
  refine ⟨p, c, rfl, fun hne => ?_⟩
  obtain ⟨g, rfl, hk⟩ := hp hne
  exact ⟨g, rfl, hk.on hb⟩

theorem texts_of {w : World} {base : Nat} {sv : Value} {ps : List (List UInt8)} (h : w.ownsRow base 9 1 sv ps.length (strs ps)) : TextsAt w sv ps := by
  by_cases hn : 0 < ps.length
  · obtain ⟨g, c, rfl, hk, _⟩ := krow_of h hn
    exact ⟨_, c, rfl, fun _ => ⟨g, rfl, hk⟩⟩
  · have hz : ps = [] := List.eq_nil_of_length_eq_zero (by omega)
    subst hz
    rcases h.2 with ⟨hv, _⟩ | ⟨g, cap, cur, hv, _⟩
    · exact ⟨none, 0, hv, fun h => absurd rfl h⟩
    · exact ⟨_, cap, hv, fun h => absurd rfl h⟩

/-! A row that is marked. -/

theorem grown_drewN {u v : World} {row : Option Nat} (h : u.grownBy v row) (n : Nat) : u.grownBy (v.drewN n) row := ⟨h.os, h.tape, h.output, h.size, h.block⟩

theorem strs_len (ps : List (List UInt8)) : (strs ps).length = ps.length := by simp [strs]

/-- The row while it is being marked. -/
def mixed (ps : List (List UInt8)) (k i : Nat) : List Value := strs (marks k i ++ ps.drop i)

theorem mixed_zero (ps : List (List UInt8)) (k : Nat) : mixed ps k 0 = strs ps := by simp [mixed, marks]

theorem mixed_all (ps : List (List UInt8)) (k n : Nat) (h : ps.length = n) : mixed ps k n = strs (marks k n) := by
  unfold mixed
  rw [List.drop_of_length_le (by omega), List.append_nil]

theorem mixed_set (ps : List (List UInt8)) (k i : Nat) (h : i < ps.length) : (mixed ps k i).set i (.string ⟨(mtext (k + i)).toArray⟩) = mixed ps k (i + 1) := by
  apply List.ext_getElem?
  intro j
  unfold mixed strs
  have hm : ∀ m, (marks k m).length = m := fun m => marks_len k m
  rw [List.getElem?_set]
  simp only [List.length_map, List.length_append, hm, List.length_drop]
  by_cases hj : i = j
  · subst hj
    rw [if_pos rfl, if_pos (by omega), List.getElem?_map, List.getElem?_append_left (by rw [hm]; omega), marks_at k _ _ (by omega)]
    rfl
  · rw [if_neg hj]
    simp only [List.getElem?_map]
    by_cases hlt : j < i
    · rw [List.getElem?_append_left (by rw [hm]; omega), List.getElem?_append_left (by rw [hm]; omega), marks_at k _ _ hlt, marks_at k _ _ (by omega)]
    · rw [List.getElem?_append_right (by rw [hm]; omega), List.getElem?_append_right (by rw [hm]; omega), hm, hm, List.getElem?_drop, List.getElem?_drop]
      congr 2
      omega

theorem mixed_at (ps : List (List UInt8)) (k i : Nat) (h : i < ps.length) : ∃ v, (mixed ps k i)[i]? = some v := by
  have : i < (mixed ps k i).length := by
    unfold mixed
    rw [strs_len, List.length_append, marks_len, List.length_drop]
    omega
  exact ⟨_, List.getElem?_eq_getElem this⟩

/-- One text more on a slice of texts that the call has made. -/
theorem wp_append_str {w : World} {ops : Array Oper} {rest : List Oper} {o : Oper} {a : Act} {Q : Exit → Act → World → Prop} (hgd : o.guard = none) (s x : Operand)
    (ho : o.op = .call { callee := .builtin .append, args := #[s, x], argTypes := #[60, 60] }) (base : Nat)
    (v : Value) (n : Nat) (xs : List Value) (hs : a.eval s = v) (hown : w.ownsRow base 9 1 v n xs)
    (ad : Addr) (c : Nat) (y : ByteArray) (hx : a.eval x = .slice (some ad) 1 c) (hcell : w.cell? ad = some (.string y)) (hn : n ≤ 1000000000) (hbase : base ≤ w.heap.size)
    (h : ∀ v' w', w'.ownsRow base 9 1 v' (n + 1) (xs ++ [.string y]) → w.grownBy w' v.ownBlock → (v'.ownBlock = v.ownBlock ∨ v'.ownBlock = some w.heap.size) → wpList Tryd.prog ops Q rest (a.put o.dst v') w') : wpList Tryd.prog ops Q (o :: rest) a w := by
  obtain ⟨i0, hi0, hz0, hz1, hz2⟩ := info_parts strInfo
  refine wp_append_where w hgd s x 60 ho base 9 i0 _ 1 16 Tryd.underlying60 hi0 hz0 hz1 hz2 rfl (by decide) v n xs hs hown ad c [.string y] hx rfl ?_ ?_ ?_ ?_ hbase h
  · intro j u hj
    match j, hj with
    | 0, hj =>
      simp at hj; subst hj
      have : ad.add 0 = ad := by obtain ⟨b, of, sp⟩ := ad; unfold Addr.add; split <;> simp_all
      rw [this]
      exact hcell
  · intro u hu; simp at hu; subst hu; rfl
  · unfold maxLen; omega
  · omega
end Go.Proofs.YtemjfhgjdiijkaaDoor
