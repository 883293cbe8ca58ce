/- The specification's cut of a text at the blanks between outermost brackets: it answers the plain cut's pieces in a row of its own, or that the brackets do not close; texts of at most 1048576 bytes. -/
import Derived.Test.YtemjfhgjdiijkaaSpecShape
namespace Go.Proofs.Ytemjfhgjdiijkaa
open Go.RowKit
open Go.Lib (hid)

/-- Texts as they lie in a row. -/
def strs (ps : List (List UInt8)) : List Value := ps.map fun x => .string ⟨x.toArray⟩

def CutOut (w : World) (l : List UInt8) (e : Ending) (w' : World) : Prop :=
  ∃ sv r, e = .returned (.tuple #[sv, .bool r]) ∧ Below w.heap.size w w' ∧ ((∃ ps, cutGo 0 [] l = some ps ∧ r = true ∧ w'.ownsRow w.heap.size 9 1 sv ps.length (strs ps)) ∨ (cutGo 0 [] l = none ∧ r = false))

/-- Where the cut stands. -/
structure Cut (w : World) (l : List UInt8) (wr : World) (out : Value) (acc : List (List UInt8)) (d f k : Nat) : Prop where
  own : wr.ownsRow w.heap.size 9 1 out acc.length (strs acc)
  below : Below w.heap.size w wr
  le : f ≤ k
  few : acc.length ≤ k
  deep : d ≤ k
  goes : cutGo 0 [] l = (cutGo d ((l.drop f).take (k - f)) (l.drop k)).map (acc ++ ·)

theorem take_more (s : ByteArray) (f k : Nat) (hf : f ≤ k) (hk : k < s.size) : (s.data.toList.drop f).take (k + 1 - f) = (s.data.toList.drop f).take (k - f) ++ [s[k]] := by
  have e : k + 1 - f = (k - f) + 1 := by omega
  rw [e, List.take_add_one, List.getElem?_drop, show f + (k - f) = k by omega, at_list s k hk]
  rfl

theorem drop_at (s : ByteArray) (k : Nat) (hk : k < s.size) : s.data.toList.drop k = s[k] :: s.data.toList.drop (k + 1) := by
  rw [List.drop_eq_getElem_cons (by simpa using hk)]
  rfl

theorem Cut.open {w : World} {s : ByteArray} {wr : World} {out : Value} {acc : List (List UInt8)} {d f k : Nat} (h : Cut w s.data.toList wr out acc d f k) (hk : k < s.size) (hc : s[k] = 40) : Cut w s.data.toList wr out acc (d + 1) f (k + 1) := by
  refine ⟨h.own, h.below, by have := h.le; omega, by have := h.few; omega, by have := h.deep; omega, ?_⟩
  rw [h.goes, drop_at s k hk, take_more s f k h.le hk, cutGo, if_pos hc]

theorem Cut.shut {w : World} {s : ByteArray} {wr : World} {out : Value} {acc : List (List UInt8)} {d f k : Nat} (h : Cut w s.data.toList wr out acc (d + 1) f k) (hk : k < s.size) (hc : s[k] = 41) : Cut w s.data.toList wr out acc d f (k + 1) := by
  refine ⟨h.own, h.below, by have := h.le; omega, by have := h.few; omega, by have := h.deep; omega, ?_⟩
  rw [h.goes, drop_at s k hk, take_more s f k h.le hk, cutGo, if_neg (by rw [hc]; decide), if_pos hc, if_neg (by omega)]
  rfl

theorem Cut.bad {w : World} {s : ByteArray} {wr : World} {out : Value} {acc : List (List UInt8)} {f k : Nat} (h : Cut w s.data.toList wr out acc 0 f k) (hk : k < s.size) (hc : s[k] = 41) : cutGo 0 [] s.data.toList = none := by
  rw [h.goes, drop_at s k hk, cutGo, if_neg (by rw [hc]; decide), if_pos hc, if_pos rfl]
  rfl

theorem Cut.plain {w : World} {s : ByteArray} {wr : World} {out : Value} {acc : List (List UInt8)} {d f k : Nat} (h : Cut w s.data.toList wr out acc d f k) (hk : k < s.size) (h40 : s[k] ≠ 40) (h41 : s[k] ≠ 41) (h32 : ¬ (s[k] = 32 ∧ d = 0)) : Cut w s.data.toList wr out acc d f (k + 1) := by
  refine ⟨h.own, h.below, by have := h.le; omega, by have := h.few; omega, by have := h.deep; omega, ?_⟩
  rw [h.goes, drop_at s k hk, take_more s f k h.le hk, cutGo, if_neg h40, if_neg h41, if_neg h32]

theorem strs_snoc (acc : List (List UInt8)) (x : List UInt8) : strs (acc ++ [x]) = strs acc ++ [.string ⟨x.toArray⟩] := by simp [strs]

theorem Cut.blank {w : World} {s : ByteArray} {wr w' : World} {out out' : Value} {acc : List (List UInt8)} {f k : Nat} (h : Cut w s.data.toList wr out acc 0 f k) (hk : k < s.size) (hc : s[k] = 32)
    (hown : w'.ownsRow w.heap.size 9 1 out' (acc.length + 1) (strs acc ++ [.string (s.extract f k)])) (hb : Below w.heap.size w w') : Cut w s.data.toList w' out' (acc ++ [(s.data.toList.drop f).take (k - f)]) 0 (k + 1) (k + 1) := by
  refine ⟨?_, hb, Nat.le_refl _, by have := h.few; simp; omega, by omega, ?_⟩
  · rw [strs_snoc, List.length_append, List.length_singleton, ← Lib.extract_eq]
    exact hown
  · rw [h.goes, drop_at s k hk, cutGo, if_neg (by rw [hc]; decide), if_neg (by rw [hc]; decide), if_pos ⟨hc, rfl⟩]
    have e : (s.data.toList.drop (k + 1)).take (k + 1 - (k + 1)) = [] := by simp
    rw [e]
    generalize cutGo 0 [] (s.data.toList.drop (k + 1)) = r
    cases r with
    | none => rfl
    | some ps => simp

theorem ne_byte {x c : UInt8} (h : x ≠ c) : ((x.toNat : Int) == (c.toNat : Int)) = false := by
  rw [beq_eq_false_iff_ne]
  intro e
  exact h (UInt8.toNat_inj.1 (by omega))

theorem strInfo : (Try.prog.info? 9).map (fun i => (i.zero, i.size, i.bytes)) = some (some (.string ⟨#[]⟩), 1, 16) := by kernel_rfl

end Go.Proofs.Ytemjfhgjdiijkaa
