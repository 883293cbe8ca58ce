/- A slice of texts that is appended to another one that the call has made; conditions as in the library's law. -/
import Derived.Test.YtjaaplcgphlccaaGreatDoorMarks
import Derived.Laws.AppendOwnNone
namespace Go.Proofs.YtjaaplcgphlccaaGreatDoor
open Go.RowKit
open Go.Lib (hid)

/-- A whole slice of texts more on a slice of texts that the call has made. -/
theorem wp_append_strs {w : World} {ops : Array Oper} {rest : List Oper} {o : Oper} {a : Act} {Q : Exit → Act → World → Prop} (hgd : o.guard = none) (s x : Operand)
    (ho : o.op = .call { callee := .builtin .append, args := #[s, x], argTypes := #[22, 22] }) (base b2 : Nat)
    (v : Value) (n : Nat) (xs : List Value) (hs : a.eval s = v) (hown : w.ownsRow base 9 1 v n xs)
    (sx : Value) (ys : List (List UInt8)) (hx : a.eval x = sx) (hsx : w.ownsRow b2 9 1 sx ys.length (strs ys)) (hn : n + ys.length ≤ 1000000000) (hbase : base ≤ w.heap.size)
    (h : ∀ v' w', w'.ownsRow base 9 1 v' (n + ys.length) (xs ++ strs ys) → w.grownBy w' v.ownBlock → (v'.ownBlock = v.ownBlock ∨ v'.ownBlock = some w.heap.size) → wpList Tryz.prog ops Q rest (a.put o.dst v') w') : wpList Tryz.prog ops Q (o :: rest) a w := by
  obtain ⟨i0, hi0, hz0, hz1, hz2⟩ := info_parts strInfo
  rcases hsx.2 with ⟨hv, hz⟩ | ⟨g, cap, cur, hv, _⟩
  · have hy : ys = [] := List.eq_nil_of_length_eq_zero hz
    subst hy
    refine wpList_append_own_none hgd s x 22 ho base 9 i0 1 Tryz.underlying22 hi0 v n xs hs hown (hx.trans hv) ?_
    refine h v w ?_ (grown_refl _ _) (Or.inl rfl)
    simpa [strs] using hown
  · subst hv
    refine wp_append_where_m w hgd s x 22 ho base 9 i0 _ 1 16 Tryz.underlying22 hi0 hz0 hz1 hz2 rfl (by decide) v n xs hs hown ⟨g, 0, none⟩ ys.length cap (strs ys) hx (by simp [strs]) ?_ ?_ ?_ ?_ hbase h
    · exact hsx.cells (g := g) rfl
    · intro u hu
      simp only [strs, List.mem_map] at hu
      obtain ⟨y, _, rfl⟩ := hu
      rfl
    · unfold maxLen; omega
    · omega
end Go.Proofs.YtjaaplcgphlccaaGreatDoor
