/- Rows of texts, as values. -/
import Derived.Test.YthhmjcojkgoekaaAppendWhere
import Derived.Test.YthhmjcojkgoekaaProg
import Derived.WalkKit
import Derived.WalkSpells
import Derived.WalkLawsBesides
import Derived.Lib.Hide
import Derived.Deep.MidRow
import Derived.Laws.CopyOwn
import Derived.Deep.QuietTactic
import Derived.BigQuiet
import Derived.RegionTactic
namespace Go.Proofs.Ythhmjcojkgoekaa
open Go.RowKit
open Go.Lib (hid)

/-- Texts as they lie in a row. -/
def strs (ps : List (List UInt8)) : List Value := ps.map fun x => .string ⟨x.toArray⟩

theorem strs_snoc (acc : List (List UInt8)) (x : List UInt8) : strs (acc ++ [x]) = strs acc ++ [.string ⟨x.toArray⟩] := by simp [strs]
theorem ne_byte {x c : UInt8} (h : x ≠ c) : ((x.toNat : Int) == (c.toNat : Int)) = false := by
  rw [beq_eq_false_iff_ne]
  intro e
  exact h (UInt8.toNat_inj.1 (by omega))

theorem strInfo : (Try.prog.info? 9).map (fun i => (i.zero, i.size, i.bytes)) = some (some (.string ⟨#[]⟩), 1, 16) := by kernel_rfl
/-- The pieces, as they lie in their row. -/
def KRow (w : World) (g : Nat) (ps : List (List UInt8)) : Prop := g < w.heap.size ∧ ∀ j (hj : j < ps.length), w.cell? ⟨g, j, none⟩ = some (.string ⟨ps[j].toArray⟩)

theorem KRow.on {w w' : World} {g : Nat} {ps : List (List UInt8)} (h : KRow w g ps) (hb : Below w.heap.size w w') : KRow w' g ps :=
  ⟨Nat.lt_of_lt_of_le h.1 hb.size, fun j hj => by rw [hb.cell (p := ⟨g, j, none⟩) h.1]; exact h.2 j hj⟩

theorem own_on {w w' : World} {base size n : Nat} {e : TypeId} {v : Value} {xs : List Value} (h : w.ownsRow base e size v n xs) (hb : Below w.heap.size w w') : w'.ownsRow base e size v n xs := by
  refine ⟨h.1, ?_⟩
  rcases h.2 with hn | ⟨g, cap, cur, e1, hbg, hg, rest⟩
  · exact Or.inl hn
  · exact Or.inr ⟨g, cap, cur, e1, hbg, (hb.block g (Array.getElem?_eq_some_iff.1 hg).1).trans hg, rest⟩

theorem addr_at (g j : Nat) : (⟨g, 0, none⟩ : Addr).add j = ⟨g, j, none⟩ := by
  unfold Addr.add
  split <;> simp_all

theorem row_shape {w : World} {base : Nat} {sv : Value} {ps : List (List UInt8)} (h : w.ownsRow base 9 1 sv ps.length (strs ps)) : ∃ p c, sv = .slice p ps.length c := by
  rcases h.2 with ⟨hv, hz⟩ | ⟨g, cap, cur, e1, _⟩
  · exact ⟨none, 0, by rw [hv, hz]⟩
  · exact ⟨_, _, e1⟩

theorem krow_of {w : World} {base : Nat} {sv : Value} {ps : List (List UInt8)} (h : w.ownsRow base 9 1 sv ps.length (strs ps)) (hn : 0 < ps.length) : ∃ g c, sv = .slice (some ⟨g, 0, none⟩) ps.length c ∧ KRow w g ps ∧ base ≤ g ∧ ps.length ≤ c := by
  rcases h.2 with ⟨_, hz⟩ | ⟨g, cap, cur, e1, hbg, hg, hnc, _⟩
  · omega
  · refine ⟨g, cap, e1, ⟨(Array.getElem?_eq_some_iff.1 hg).1, fun j hj => ?_⟩, hbg, hnc⟩
    have := h.cells (g := g) (by rw [e1]; rfl) j (.string ⟨ps[j].toArray⟩) (by simp [strs, hj])
    rw [addr_at] at this
    exact this
end Go.Proofs.Ythhmjcojkgoekaa
