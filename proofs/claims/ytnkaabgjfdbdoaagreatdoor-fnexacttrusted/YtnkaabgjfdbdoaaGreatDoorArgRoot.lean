/- A Root that came in, opened: its key, its words, its registers. -/
import Derived.Test.YtnkaabgjfdbdoaaGreatDoorRootHelp
import Derived.Test.YtnkaabgjfdbdoaaGreatDoorTabLaid
import Derived.ProofKit
import Derived.LaidMore
import Derived.OpenShut
import Derived.SliceStrings
import Derived.Carry
import Derived.Lib.SmallJoins
namespace Go.Proofs.YtnkaabgjfdbdoaaGreatDoor
open Go.ChangeShapes Go.WideShapes Go.ChangeAt Go.RowKit

theorem cells_i64 : Tryz.prog.cellsOf 2 = 1 := by kernel_rfl

theorem arg_ints {H : Type} {enc : TypeId × Value → H} {W : World} {base fuel : Nat} {spare : Nat → Bool} {held : Bool} {v : Value} {x : DataW H × List MemPlace}
    (h : DataW.trod enc Tryz.prog W base spare held fuel 22 [v] = some x) (hsp : ∀ k, spare k = true) : ∃ l : List Int, l.length ≤ maxLen ∧ ArgInts W v l := by
  rcases open_ints Tryz.underlying22 Tryz.underlying2 cells_i64 h with ⟨hcs, _⟩ | ⟨ad, len', cap', zs, hcs, _, hl, hm, hz, _, hcell, _⟩
  · injection hcs with hcs _
    rw [hcs]
    exact ⟨[], Nat.zero_le _, none, 0, rfl, fun i hi => absurd hi (by simp)⟩
  · injection hcs with hcs _
    rw [hcs]
    rw [if_pos (hsp _)] at hz
    have hlen : (zs.take len').length = len' := by simp; omega
    refine ⟨zs.take len', by rw [hlen]; exact Nat.le_trans hl hm, some ad, cap', by rw [hlen], fun i hi => ⟨ad, rfl, ?_, ?_⟩⟩
    · rw [hlen] at hi
      have := World.block_lt_of_cell? W _ (hcell i (by omega))
      rw [add_block] at this
      exact this
    · rw [hlen] at hi
      rw [hcell i (by omega), List.getElem_take]
      simp [List.getD_eq_getElem?_getD, List.getElem?_eq_getElem (show i < zs.length by omega)]

theorem arg_texts {H : Type} {enc : TypeId × Value → H} {W : World} {base fuel : Nat} {spare : Nat → Bool} {held : Bool} {v : Value} {x : DataW H × List MemPlace}
    (hf : DataW.trod enc Tryz.prog W base spare held fuel 25 [v] = some x) (hsp : ∀ k, spare k = true) : ∃ ps : List (List UInt8), ArgAt W v ps ∧ (∀ p ∈ ps, p.length ≤ 9223372036854775807) ∧ ps.length ≤ 9223372036854775807 := by
  rcases open_strings Tryz.underlying25 Tryz.underlying9 cells_string hf with ⟨hcs, _⟩ | ⟨ad, len', cap', ss, hcs, _, hl, hm, hz, _, hcell, hsz⟩
  · injection hcs with hcs _
    rw [hcs]
    exact ⟨[], ⟨none, 0, rfl, fun i hi => absurd hi (by simp)⟩, by simp, by simp⟩
  · injection hcs with hcs _
    rw [hcs]
    rw [if_pos (hsp _)] at hz
    have hlen : ((ss.take len').map (·.data.toList)).length = len' := by simp; omega
    refine ⟨(ss.take len').map (·.data.toList), ⟨some ad, cap', by rw [hlen], fun i hi => ⟨ad, rfl, ?_, ?_⟩⟩, ?_, ?_⟩
    · rw [hlen] at hi
      have := World.block_lt_of_cell? W _ (hcell i (by omega))
      rw [add_block] at this
      exact this
    · rw [hlen] at hi
      rw [hcell i (by omega), List.getElem_map, List.getElem_take]
      simp [List.getD_eq_getElem?_getD, List.getElem?_eq_getElem (show i < ss.length by omega)]
    · intro p hp
      obtain ⟨s, hs, rfl⟩ := List.mem_map.1 hp
      have := hsz s (List.mem_of_mem_take hs)
      unfold maxLen at this
      simpa using this
    · rw [hlen]
      unfold maxLen at hm
      omega

theorem array5 {α : Type} {cs : Array α} (h : cs.size = 5) : ∃ c0 c1 c2 c3 c4, cs = #[c0, c1, c2, c3, c4] := by
  obtain ⟨l⟩ := cs
  match l, h with
  | [c0, c1, c2, c3, c4], _ => exact ⟨c0, c1, c2, c3, c4, rfl⟩

/-- A struct of four fields, the second of two cells. -/
theorem open_five {H : Type} {enc : TypeId × Value → H} {P : Program} {w : World} {base : Nat} {spare : Nat → Bool} {held : Bool} {r : Reach} {b0 : Nat} {t : TypeId} {f0 f1 f2 f3 : Field} {v : Value} {d : DataW H} {p : List MemPlace}
    (ht : P.underlying t = some (.struct #[f0, f1, f2, f3])) (hC : P.cellsOf t = 5) (k0 : f0.offset = 0 ∧ P.cellsOf f0.type = 1) (k1 : f1.offset = 1 ∧ P.cellsOf f1.type = 2) (k2 : f2.offset = 3 ∧ P.cellsOf f2.type = 1) (k3 : f3.offset = 4 ∧ P.cellsOf f3.type = 1)
    (hv : Value.okWide P w r b0 t v) (h : DataW.Trod enc P w base spare held t v d p) :
    ∃ (c0 c1 c2 c3 c4 : Value) (y0 y1 y2 y3 : DataW H × List MemPlace) (n : Nat), v = .agg #[c0, c1, c2, c3, c4] ∧ DataW.trod enc P w base spare held n f0.type [c0] = some y0 ∧ DataW.trod enc P w base spare held n f1.type [c1, c2] = some y1 ∧ DataW.trod enc P w base spare held n f2.type [c3] = some y2 ∧ DataW.trod enc P w base spare held n f3.type [c4] = some y3 := by
  obtain ⟨cs, rfl, hsz⟩ := okWide_struct ht hv
  obtain ⟨c0, c1, c2, c3, c4, rfl⟩ := array5 (hsz.trans hC)
  obtain ⟨fuel, hf⟩ := h
  obtain ⟨y0, y1, y2, y3, n, _, _, h0, h1, h2, h3⟩ := Joins.trod_struct4 ht hf
  exact ⟨c0, c1, c2, c3, c4, y0, y1, y2, y3, n, rfl, by simpa [Value.cells, k0.1, k0.2] using h0, by simpa [Value.cells, k1.1, k1.2] using h1, by simpa [Value.cells, k2.1, k2.2] using h2, by simpa [Value.cells, k3.1, k3.2] using h3⟩

/-- A struct of two fields of one cell each, from its cells. -/
theorem open_pair {H : Type} {enc : TypeId × Value → H} {P : Program} {w : World} {base : Nat} {spare : Nat → Bool} {held : Bool} {t : TypeId} {f0 f1 : Field} {n : Nat} {c0 c1 : Value} {x : DataW H × List MemPlace}
    (ht : P.underlying t = some (.struct #[f0, f1])) (k0 : f0.offset = 0 ∧ P.cellsOf f0.type = 1) (k1 : f1.offset = 1 ∧ P.cellsOf f1.type = 1) (h : DataW.trod enc P w base spare held n t [c0, c1] = some x) :
    ∃ (y0 y1 : DataW H × List MemPlace) (m : Nat), DataW.trod enc P w base spare held m f0.type [c0] = some y0 ∧ DataW.trod enc P w base spare held m f1.type [c1] = some y1 := by
  obtain ⟨y0, y1, m, _, _, h0, h1⟩ := trod_struct2 ht h
  exact ⟨y0, y1, m, by simpa [k0.1, k0.2] using h0, by simpa [k1.1, k1.2] using h1⟩

set_option maxRecDepth 100000 in
/-- A Root that came in, opened. -/
theorem open_root {H : Type} {enc : TypeId × Value → H} {W : World} {r : Reach} {b0 base : Nat} {spare : Nat → Bool} {held : Bool} {v : Value} {d : DataW H} {p : List MemPlace}
    (hsp : ∀ k, spare k = true) (hv : Value.okWide Tryz.prog W r b0 27 v) (h : DataW.Trod enc Tryz.prog W base spare held 27 v d p) :
    ∃ (key : ByteArray) (s : Int) (l : List Int) (up : Bool) (ps : List (List UInt8)) (a1 a2 : Value), v = .agg #[.string key, .int .i64 s, a1, .bool up, a2] ∧ key.size ≤ 9223372036854775807 ∧ l.length ≤ maxLen ∧ (∀ p ∈ ps, p.length ≤ 9223372036854775807) ∧ ps.length ≤ 9223372036854775807 ∧ ArgInts W a1 l ∧ ArgAt W a2 ps := by
  obtain ⟨c0, c1, c2, c3, c4, y0, y1, y2, y3, n, rfl, h0, h1, h2, h3⟩ := open_five (show Tryz.prog.underlying 27 = some (.struct #[_, _, _, _]) from Tryz.underlying27) (by kernel_rfl) ⟨rfl, by kernel_rfl⟩ ⟨rfl, by kernel_rfl⟩ ⟨rfl, by kernel_rfl⟩ ⟨rfl, by kernel_rfl⟩ hv h
  obtain ⟨key, hk, _, hkz⟩ := DataW.trod_string Tryz.underlying9 h0
  obtain ⟨z0, z1, m, g0, g1⟩ := open_pair (show Tryz.prog.underlying 24 = some (.struct #[_, _]) from Tryz.underlying24) ⟨rfl, by kernel_rfl⟩ ⟨rfl, by kernel_rfl⟩ h1
  obtain ⟨s, hs, _, _⟩ := DataW.trod_int Tryz.underlying2 g0
  obtain ⟨up, hu, _⟩ := DataW.trod_bool Tryz.underlying4 h2
  obtain ⟨l, hlm, ha⟩ := arg_ints g1 hsp
  obtain ⟨ps, hb, hps, hpn⟩ := arg_texts h3 hsp
  injection hk with hk _
  injection hs with hs _
  injection hu with hu _
  subst hk hs hu
  unfold maxLen at hkz
  exact ⟨key, s, l, up, ps, c2, c4, rfl, hkz, hlm, hps, hpn, ha, hb⟩
end Go.Proofs.YtnkaabgjfdbdoaaGreatDoor
