/- What the program's reader of terms does, sign by sign: each of its small methods over a reader at a place in its text, and that nothing old is written but the reader's place. -/
import Derived.Test.YtknipcnlaaapoaaProg
import Derived.Test.YtknipcnlaaapoaaTermPlain
import Derived.WalkKit
import Derived.WalkSpells
import Derived.WalkLawsBesides
import Derived.Deep.QuietTactic
import Derived.BigQuiet
import Derived.Lib.Hide
import Derived.Lib.Strings
import Derived.RegionTactic
namespace Go.Proofs.Ytknipcnlaaapoaa
open Go.RowKit
open Go.Lib (hid)

/-- A reader in block b of text s at place i. -/
structure Reader (w : World) (b : Nat) (s : ByteArray) (i : Nat) : Prop where
  text : w.cell? ⟨b, 0, none⟩ = some (.string s)
  place : w.cell? ⟨b, 1, none⟩ = some (.int .i64 i)
  free : w.frozen? ⟨b, 1, none⟩ = false

/-- What stands at the reader's place; 0 behind the end. -/
def byteAt (s : ByteArray) (i : Nat) : Int := if h : i < s.size then (s[i].toNat : Int) else 0

theorem byteAt_lt (s : ByteArray) (i : Nat) (h : i < s.size) : byteAt s i = (s[i].toNat : Int) := by
  unfold byteAt
  rw [dif_pos h]

theorem byteAt_end (s : ByteArray) (i : Nat) (h : ¬ i < s.size) : byteAt s i = 0 := by
  unfold byteAt
  rw [dif_neg h]

/-! What stays while a reader goes on: all but its own block. -/

structure Step (b : Nat) (w w' : World) : Prop where
  os : w'.os = w.os
  tape : w'.tape = w.tape
  output : w'.output = w.output
  size : w.heap.size ≤ w'.heap.size
  block : ∀ k, k < w.heap.size → k ≠ b → w'.heap[k]? = w.heap[k]?

theorem Step.refl (b : Nat) (w : World) : Step b w w := ⟨rfl, rfl, rfl, Nat.le_refl _, fun _ _ _ => rfl⟩

theorem Step.trans {b : Nat} {u v w : World} (h : Step b u v) (k : Step b v w) : Step b u w :=
  ⟨k.os.trans h.os, k.tape.trans h.tape, k.output.trans h.output, Nat.le_trans h.size k.size, fun i hi hb => (k.block i (Nat.lt_of_lt_of_le hi h.size) hb).trans (h.block i hi hb)⟩

theorem Step.drewN {b : Nat} {u w : World} (h : Step b u w) (n : Nat) : Step b u (w.drewN n) := h.trans ⟨rfl, rfl, rfl, Nat.le_refl _, fun _ _ _ => rfl⟩

theorem Step.drew {b : Nat} {u w : World} (h : Step b u w) : Step b u w.drew := h.trans ⟨rfl, rfl, rfl, Nat.le_refl _, fun _ _ _ => rfl⟩

theorem Step.alloc {b : Nat} {u w : World} (h : Step b u w) (o : Obj) : Step b u (w.alloc o) :=
  h.trans ⟨rfl, rfl, rfl, by simp, fun k hk _ => Below.heap_alloc _ _ _ hk⟩

theorem Step.setCell {b : Nat} {u w : World} (h : Step b u w) (i : Nat) (v : Value) : Step b u (w.setCell ⟨b, i, none⟩ v) :=
  h.trans ⟨rfl, rfl, rfl, by simp [World.setCell], fun k _ hb => Below.heap_setCell _ _ _ _ hb⟩

theorem Step.cell {b : Nat} {w w' : World} (h : Step b w w') {p : Addr} (hp : p.block < w.heap.size) (hb : p.block ≠ b) : w'.cell? p = w.cell? p := World.cell?_of_block (w := w) (h.block p.block hp hb)

theorem Step.frozen {b : Nat} {w w' : World} (h : Step b w w') {p : Addr} (hp : p.block < w.heap.size) (hb : p.block ≠ b) : w'.frozen? p = w.frozen? p := World.frozen?_of_block (w := w) (h.block p.block hp hb)

theorem Reader.drewN {w : World} {b : Nat} {s : ByteArray} {i : Nat} (h : Reader w b s i) (n : Nat) : Reader (w.drewN n) b s i := ⟨h.text, h.place, h.free⟩

theorem Reader.move {w : World} {b : Nat} {s : ByteArray} {i j : Nat} {v : Value} (h : Reader w b s i) (hv : v = .int .i64 j) : Reader (w.setCell ⟨b, 1, none⟩ v) b s j := by
  subst hv
  refine ⟨?_, ?_, ?_⟩
  · rw [World.cell?_setCell_other _ _ _ _ (by simp)]; exact h.text
  · exact World.cell?_setCell_same _ _ _ h.place
  · simpa using h.free

theorem head_drop (s : ByteArray) (j : Nat) (h : j < s.size) : (s.data.toList.drop j).head? = some s[j] := by
  rw [List.head?_drop, List.getElem?_eq_getElem (by simpa using h)]
  rfl

theorem nm_iff (c : UInt8) : (97 ≤ (c.toNat : Int) ∧ (c.toNat : Int) ≤ 122 ∨ 48 ≤ (c.toNat : Int) ∧ (c.toNat : Int) ≤ 57) ↔ nmB c = true := by
  simp only [nmB, isLow, isDig, Bool.or_eq_true, decide_eq_true_eq]
  omega

theorem run_at (s : ByteArray) (i r : Nat) (hr : r ≤ run (s.data.toList.drop i)) :
    (97 ≤ byteAt s (i + r) ∧ byteAt s (i + r) ≤ 122 ∨ 48 ≤ byteAt s (i + r) ∧ byteAt s (i + r) ≤ 57) ↔ r < run (s.data.toList.drop i) := by
  have hlen := run_le (s.data.toList.drop i)
  rw [List.length_drop] at hlen
  have hsz : s.data.toList.length = s.size := by simp
  by_cases hlt : i + r < s.size
  · rw [byteAt_lt s _ hlt, nm_iff]
    have hh := head_drop s (i + r) hlt
    by_cases hrr : r < run (s.data.toList.drop i)
    · refine ⟨fun _ => hrr, fun _ => ?_⟩
      have hall := run_all (s.data.toList.drop i)
      rw [← take_run] at hall
      refine List.all_eq_true.1 hall _ ?_
      rw [List.head?_drop] at hh
      refine List.mem_of_getElem? (i := r) ?_
      rw [List.getElem?_take_of_lt hrr, List.getElem?_drop]
      exact hh
    · have : r = run (s.data.toList.drop i) := by omega
      refine ⟨fun h => ?_, fun h => absurd h hrr⟩
      have hst := run_stop (s.data.toList.drop i) s[i + r] (by rw [List.drop_drop, ← this]; exact hh)
      rw [hst] at h
      cases h
  · rw [byteAt_end s _ hlt]
    constructor
    · intro h; omega
    · intro h; omega

theorem extract_run (s : ByteArray) (i : Nat) : s.extract i (i + run (s.data.toList.drop i)) = ⟨((s.data.toList.drop i).takeWhile nmB).toArray⟩ := by
  rw [Lib.extract_eq, ← take_run, Nat.add_sub_cancel_left]

theorem size_list (q : ByteArray) : q.size = q.data.toList.length := by simp

theorem first_list (q : ByteArray) (h : 0 < q.size) {c : UInt8} {r : List UInt8} (hq : q.data.toList = c :: r) : q[0] = c := by
  have h2 := head_drop q 0 h
  rw [List.drop_zero, hq] at h2
  exact (Option.some.inj h2).symm

end Go.Proofs.Ytknipcnlaaapoaa
