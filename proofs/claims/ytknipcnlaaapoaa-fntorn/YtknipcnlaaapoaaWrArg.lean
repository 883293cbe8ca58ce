/- The helpers of the laws on writes that came in: how many, and a copy. -/
import Derived.Test.YtknipcnlaaapoaaWrRows
import Derived.Test.YtknipcnlaaapoaaNvRHelp
import Derived.Test.YtknipcnlaaapoaaWrPut
namespace Go.Proofs.Ytknipcnlaaapoaa
open Go.RowKit
open Go.Lib (hid)

/-- A row of n writes that came in, wherever it lies: its cells in order. -/
def ArgW (w : World) (a : Value) (n : Nat) (F : List Int) : Prop :=
  F.length = 2 * n ∧ ∃ p c, a = .slice p n c ∧ ∀ i (hi : i < F.length), ∃ ad : Addr, p = some ad ∧ ad.block < w.heap.size ∧ w.cell? (ad.add i) = some (.int .i64 F[i])

theorem ArgW.on {w w' : World} {a : Value} {n : Nat} {F : List Int} (h : ArgW w a n F) (hb : Below w.heap.size w w') : ArgW w' a n F := by
  obtain ⟨h0, p, c, rfl, hp⟩ := h
  refine ⟨h0, p, c, rfl, fun i hi => ?_⟩
  obtain ⟨ad, rfl, hl, hc⟩ := hp i hi
  exact ⟨ad, rfl, Nat.lt_of_lt_of_le hl hb.size, by rw [hb.cell (p := ad.add i) (by rw [add_block]; exact hl)]; exact hc⟩

theorem add_one_at (ad : Addr) (k : Nat) : (⟨(ad.add k).block, (ad.add k).off + 1, none⟩ : Addr) = ad.add (k + 1) := by
  unfold Addr.add
  by_cases h : k = 0
  · subst h; simp
  · simp [h, Nat.add_assoc]

end Go.Proofs.Ytknipcnlaaapoaa
