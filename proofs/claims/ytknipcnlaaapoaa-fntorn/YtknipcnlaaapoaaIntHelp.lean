/- The helpers of the laws on slices of integers: a copy, two held against each other, marks. -/
import Derived.Test.YtknipcnlaaapoaaBase
import Derived.Test.YtknipcnlaaapoaaNvSpecNew
import Derived.Deep.RegionWith
namespace Go.Proofs.Ytknipcnlaaapoaa
open Go.RowKit
open Go.Lib (hid)

/-- A row of integers that came in, wherever it lies. -/
def ArgInts (w : World) (a : Value) (l : List Int) : Prop :=
  ∃ p c, a = .slice p l.length c ∧ ∀ i (hi : i < l.length), ∃ ad : Addr, p = some ad ∧ ad.block < w.heap.size ∧ w.cell? (ad.add i) = some (.int .i64 l[i])

theorem ArgInts.on {w w' : World} {a : Value} {l : List Int} (h : ArgInts w a l) (hb : Below w.heap.size w w') : ArgInts w' a l := by
  obtain ⟨p, c, rfl, hp⟩ := h
  refine ⟨p, c, rfl, fun i hi => ?_⟩
  obtain ⟨ad, rfl, hl, hc⟩ := hp i hi
  exact ⟨ad, rfl, Nat.lt_of_lt_of_le hl hb.size, by rw [hb.cell (p := ad.add i) (by rw [add_block]; exact hl)]; exact hc⟩

theorem RowIn.arg {w : World} {a : Value} {l : List Int} (h : RowIn w a l) : ArgInts w a l := by
  obtain ⟨p, c, rfl, _, hp⟩ := h
  refine ⟨p, c, rfl, fun i hi => ?_⟩
  obtain ⟨g, o, rfl, hg, hcell⟩ := hp (fun h => by rw [h] at hi; cases hi)
  exact ⟨⟨g, o, none⟩, rfl, hg, by rw [Addr.add_mid]; exact hcell i hi⟩

/-- The copy while it is being filled. -/
def filling (l : List Int) (i : Nat) : List Int := l.take i ++ noughts (l.length - i)

theorem filling_len (l : List Int) (i : Nat) (h : i ≤ l.length) : (filling l i).length = l.length := by unfold filling; rw [List.length_append, List.length_take, noughts_len]; omega

theorem filling_all (l : List Int) : filling l l.length = l := by unfold filling; rw [List.take_of_length_le (Nat.le_refl _), Nat.sub_self]; simp [noughts]

theorem filling_set (l : List Int) (i : Nat) (h : i < l.length) : (filling l i).set i l[i] = filling l (i + 1) := by
  unfold filling
  have h1 : (l.take i).length = i := by rw [List.length_take]; omega
  rw [List.set_append, if_neg (by omega), h1, Nat.sub_self, show l.length - i = (l.length - (i + 1)) + 1 by omega]
  unfold noughts
  rw [List.replicate_succ, List.set_cons_zero, List.take_succ_eq_append_getElem h, List.append_assoc, List.singleton_append]

/-- The marks from k on, so many. -/
def imarks (k n : Nat) : List Int := (List.range n).map fun i => ((k + i : Nat) : Int)

theorem imarks_len (k n : Nat) : (imarks k n).length = n := by simp [imarks]

theorem imarks_at (k n i : Nat) (h : i < n) : (imarks k n)[i]'(by rw [imarks_len]; exact h) = ((k + i : Nat) : Int) := by simp [imarks]

/-- The row while it is being marked. -/
def imixed (l : List Int) (k i : Nat) : List Int := imarks k i ++ l.drop i

theorem imixed_len (l : List Int) (k i : Nat) (h : i ≤ l.length) : (imixed l k i).length = l.length := by unfold imixed; rw [List.length_append, imarks_len, List.length_drop]; omega

theorem imixed_set (l : List Int) (k i : Nat) (h : i < l.length) : (imixed l k i).set i ((k + i : Nat) : Int) = imixed l k (i + 1) := by
  unfold imixed
  rw [List.set_append, if_neg (by rw [imarks_len]; omega), imarks_len, Nat.sub_self, List.drop_eq_getElem_cons h, List.set_cons_zero]
  unfold imarks
  rw [List.range_succ, List.map_append, List.map_singleton, List.append_assoc, List.singleton_append]

theorem imixed_all (l : List Int) (k : Nat) : imixed l k l.length = imarks k l.length := by unfold imixed; rw [List.drop_of_length_le (Nat.le_refl _), List.append_nil]

end Go.Proofs.Ytknipcnlaaapoaa
