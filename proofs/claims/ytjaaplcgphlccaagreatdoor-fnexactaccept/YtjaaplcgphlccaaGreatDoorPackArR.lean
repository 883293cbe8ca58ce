/- Laid together: ArgFlat, ArgStructKit, ArgStRelying. -/
import Derived.Test.YtjaaplcgphlccaaGreatDoorFlatRow
import Derived.ProofKit
import Derived.LaidMore
import Derived.OpenShut
import Derived.SliceStrings
import Derived.Carry
import Derived.Deep.Slices
import Derived.Lib.SmallJoins
import Derived.Test.YtjaaplcgphlccaaGreatDoorArgTexts
import Derived.Test.YtjaaplcgphlccaaGreatDoorTabLaid

namespace Go.Proofs.YtjaaplcgphlccaaGreatDoor
open Go.ChangeShapes Go.WideShapes Go.ChangeAt Go.RowKit Go.Deep

section
variable {H : Type} {enc : TypeId × Value → H} {P : Program} {w : World} {base : Nat} {spare : Nat → Bool} {held : Bool}

theorem trod_flat {t : TypeId} {fs : Array Field} {fuel : Nat} {cs : List Value} {x : DataW H × List MemPlace} (ht : P.underlying t = some (.struct fs)) (hC : P.cellsOf t = fs.size) (hone : oneCellFields P fs = true) (h : DataW.trod enc P w base spare held fuel t cs = some x) :
    cs.length = fs.size ∧ ∃ n, ∀ (i : Nat) (f : Field), fs[i]? = some f → ∃ v y, cs[i]? = some v ∧ DataW.trod enc P w base spare held n f.type [v] = some y := by
  obtain ⟨xs, n, _, _, hl, hxl, hf⟩ := DataW.trod_struct ht h
  rw [hC] at hl
  refine ⟨hl, n, fun i f hi => ?_⟩
  obtain ⟨o, c⟩ := hone_of hone i f hi
  have hlt : i < fs.size := (Array.getElem?_eq_some_iff.1 hi).1
  have h1 := hf i f hi
  rw [o, c] at h1
  have h2 : (cs.drop i).take 1 = [cs[i]'(by omega)] := by
    rw [List.drop_eq_getElem_cons (by omega)]
    rfl
  rw [h2, List.getElem?_eq_getElem (by omega)] at h1
  exact ⟨_, _, List.getElem?_eq_getElem (by omega), h1⟩

theorem arg_flat {α : Type} {ec : α → List Value} {Q : α → Prop} {k : Nat} (hk : 0 < k) {t e : TypeId} {fuel : Nat} {v : Value} {x : DataW H × List MemPlace} (ht : P.underlying t = some (.slice e)) (hC : P.cellsOf e = k)
    (hopen : ∀ n cs y, DataW.trod enc P w base spare held n e cs = some y → ∃ a, cs = ec a ∧ Q a) (h : DataW.trod enc P w base spare held fuel t [v] = some x) (hsp : ∀ b, spare b = true) :
    ∃ es : List α, FArg ec k w v es ∧ (∀ a ∈ es, Q a) ∧ es.length ≤ maxLen := by
  rcases open_slice ht h with ⟨hcs, _⟩ | ⟨ad, len, cap, m, n, D, Pl, hcs, _, hl, hm, hmm, _, hall⟩
  · injection hcs with hcs _
    rw [hcs]
    exact ⟨[], arg_nil ec k w, ⟨fun a ha => (by cases ha), Nat.zero_le _⟩⟩
  · injection hcs with hcs _
    rw [hcs]
    rw [if_pos (hsp _)] at hmm
    have each : ∀ i, i < len → ∃ a : α, Q a ∧ ad.block < w.heap.size ∧ ∀ j, j < k → w.cell? (ad.add (i * k + j)) = (ec a)[j]? := fun i hi => by
      obtain ⟨cs', h1, h2⟩ := hall i (by omega)
      obtain ⟨a, rfl, hq⟩ := hopen _ _ _ h2
      obtain ⟨_, hlen, hcell⟩ := World.cells?_some h1
      rw [hC] at hlen hcell
      have hb := World.block_lt_of_cell? w _ (show w.cell? ((ad.add (i * k)).add 0) = some ((ec a)[0]'(by omega)) by rw [hcell 0 (by omega), List.getElem?_eq_getElem (by omega)])
      rw [add_block, add_block] at hb
      exact ⟨a, hq, hb, fun j hj => by rw [← add_add]; exact hcell j hj⟩
    by_cases h0 : len = 0
    · subst h0
      exact ⟨[], ⟨some ad, cap, rfl, fun i hi => absurd hi (by simp)⟩, ⟨fun a ha => (by cases ha), Nat.zero_le _⟩⟩
    · have a0 := Classical.choose (each 0 (by omega))
      have hch : ∃ q : Nat → α, ∀ i, i < len → Q (q i) ∧ ad.block < w.heap.size ∧ ∀ j, j < k → w.cell? (ad.add (i * k + j)) = (ec (q i))[j]? :=
        ⟨fun i => if hi : i < len then Classical.choose (each i hi) else a0, fun i hi => by simp only [dif_pos hi]; exact Classical.choose_spec (each i hi)⟩
      obtain ⟨q, hq⟩ := hch
      refine ⟨(List.range len).map q, ⟨some ad, cap, by simp, fun i hi => ⟨ad, rfl, (hq 0 (by omega)).2.1, fun j hj => ?_⟩⟩, fun a ha => ?_, by simp; omega⟩
      · rw [List.getElem_map, List.getElem_range]
        exact (hq i (by simpa using hi)).2.2 j hj
      · obtain ⟨i, hi, rfl⟩ := List.mem_map.1 ha
        exact (hq i (by simpa using hi)).1
end
end Go.Proofs.YtjaaplcgphlccaaGreatDoor

namespace Go.Proofs.YtjaaplcgphlccaaGreatDoor
open Go.ChangeShapes Go.WideShapes Go.ChangeAt Go.RowKit

theorem arg_strs {H : Type} {enc : TypeId × Value → H} {W : World} {base fuel : Nat} {spare : Nat → Bool} {held : Bool} {v : Value} {x : DataW H × List MemPlace}
    (hf : DataW.trod enc Tryz.prog W base spare held fuel 22 [v] = some x) (hsp : ∀ k, spare k = true) : ∃ ps : List (List UInt8), ArgAt W v ps ∧ (∀ p ∈ ps, p.length ≤ 9223372036854775807) ∧ ps.length ≤ 9223372036854775807 := by
  rcases open_strings Tryz.underlying22 Tryz.underlying9 cells_string hf with ⟨hcs, _⟩ | ⟨ad, len', cap', ss, hcs, _, hl, hm, hz, _, hcell, hsz⟩
  · injection hcs with hcs _
    rw [hcs]
    exact ⟨[], ⟨none, 0, rfl, fun i hi => absurd hi (by simp)⟩, by simp, by simp⟩
  · injection hcs with hcs _
    rw [hcs]
    rw [if_pos (hsp _)] at hz
    have hlen : ((ss.take len').map (·.data.toList)).length = len' := by simp; omega
    refine ⟨(ss.take len').map (·.data.toList), ⟨some ad, cap', by rw [hlen], fun i hi => ⟨ad, rfl, ?_, ?_⟩⟩, ?_, ?_⟩
    · rw [hlen] at hi
      have := World.block_lt_of_cell? W _ (hcell i (by omega))
      rw [add_block] at this
      exact this
    · rw [hlen] at hi
      rw [hcell i (by omega), List.getElem_map, List.getElem_take]
      simp [List.getD_eq_getElem?_getD, List.getElem?_eq_getElem (show i < ss.length by omega)]
    · intro p hp
      obtain ⟨s, hs, rfl⟩ := List.mem_map.1 hp
      have := hsz s (List.mem_of_mem_take hs)
      unfold maxLen at this
      simpa using this
    · rw [hlen]
      unfold maxLen at hm
      omega

end Go.Proofs.YtjaaplcgphlccaaGreatDoor

namespace Go.Proofs.YtjaaplcgphlccaaGreatDoor
open Go.ChangeShapes Go.WideShapes Go.ChangeAt Go.RowKit

set_option maxRecDepth 100000 in
theorem open_Relying {H : Type} {enc : TypeId × Value → H} {W : World} {r : Reach} {b0 base : Nat} {spare : Nat → Bool} {held : Bool} {v : Value} {d : DataW H} {p : List MemPlace}
    (hsp : ∀ k, spare k = true) (hv : Value.okWide Tryz.prog W r b0 24 v) (h : DataW.Trod enc Tryz.prog W base spare held 24 v d p) :
    ∃ (l0 : List (List UInt8)) (l1 : List (List UInt8)) (l2 : List (List UInt8)) (a0 : Value) (a1 : Value) (a2 : Value), v = .agg #[a0, a1, a2] ∧ ArgAt W a0 l0 ∧ (∀ p ∈ l0, p.length ≤ 9223372036854775807) ∧ l0.length ≤ 9223372036854775807 ∧ ArgAt W a1 l1 ∧ (∀ p ∈ l1, p.length ≤ 9223372036854775807) ∧ l1.length ≤ 9223372036854775807 ∧ ArgAt W a2 l2 ∧ (∀ p ∈ l2, p.length ≤ 9223372036854775807) ∧ l2.length ≤ 9223372036854775807 := by
  obtain ⟨cs, rfl, _⟩ := okWide_struct (show Tryz.prog.underlying 24 = some (.struct #[_, _, _]) from Tryz.underlying24) hv
  obtain ⟨fuel, hf0⟩ := h
  obtain ⟨hl, n, hf⟩ := trod_flat (show Tryz.prog.underlying 24 = some (.struct #[_, _, _]) from Tryz.underlying24) (by kernel_rfl) (by kernel_rfl) hf0
  have m1 : IntKind.i64.min = -9223372036854775808 := rfl
  have m2 : IntKind.i64.max = 9223372036854775807 := rfl
  obtain ⟨v0, y0, e0, t0⟩ := hf 0 _ rfl
  obtain ⟨l0, g0, u0, n0⟩ := arg_strs t0 hsp
  obtain ⟨v1, y1, e1, t1⟩ := hf 1 _ rfl
  obtain ⟨l1, g1, u1, n1⟩ := arg_strs t1 hsp
  obtain ⟨v2, y2, e2, t2⟩ := hf 2 _ rfl
  obtain ⟨l2, g2, u2, n2⟩ := arg_strs t2 hsp
  refine ⟨l0, l1, l2, v0, v1, v2, ?_, g0, u0, n0, g1, u1, n1, g2, u2, n2⟩
  obtain ⟨cs⟩ := cs
  match cs, hl with
  | [c0, c1, c2], _ =>
    simp [Value.cells] at e0 e1 e2
    subst e0 e1 e2
    rfl
end Go.Proofs.YtjaaplcgphlccaaGreatDoor
