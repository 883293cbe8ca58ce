/- From the row's list to the table of kinds: the array of eight structs that the row lays, read cell for cell. -/
import Derived.Test.YtjaaplcgphlccaaGreatDoorPackImpl
import Derived.Test.YtjaaplcgphlccaaGreatDoorRows
import Derived.Lib.SmallJoins
import Derived.Lib.LaidU8
import Derived.OpenShut
import Derived.LaidMore
namespace Go.Proofs.YtjaaplcgphlccaaGreatDoor
open Go.RowKit Go.Lib Go.Joins

theorem cells_string : Tryz.prog.cellsOf 9 = 1 := by kernel_rfl
theorem cells_int : Tryz.prog.cellsOf 3 = 1 := by kernel_rfl
theorem cells_bool : Tryz.prog.cellsOf 4 = 1 := by kernel_rfl
theorem cells_shape : Tryz.prog.cellsOf 115 = 4 := by kernel_rfl

theorem row_laid {w : World} {fuel : Nat} {c : List Value} {b : List UInt8} {l m : Int} {f : Bool} {p : List MemPlace}
    (h : DataW.trod (fun _ => ()) Tryz.prog w 0 (fun _ => true) false fuel 115 c = some (.agg [.lit (.string b), .lit (.int .i64 l), .lit (.int .i64 m), .lit (.bool f)], p)) :
    c = [.string ⟨b.toArray⟩, .int .i64 l, .int .i64 m, .bool f] := by
  obtain ⟨y0, y1, y2, y3, n, he, hl, h0, h1, h2, h3⟩ := trod_struct4 Tryz.underlying115 h
  rw [cells_shape] at hl
  simp only [cells_string, cells_int, cells_bool] at h0 h1 h2 h3
  match c, hl with
  | [c0, c1, c2, c3], _ =>
    simp only [List.drop, List.take] at h0 h1 h2 h3
    obtain ⟨s, e0, rfl, _⟩ := DataW.trod_string Tryz.underlying9 h0
    obtain ⟨z1, e1, rfl, _⟩ := DataW.trod_int Tryz.underlying3 h1
    obtain ⟨z2, e2, rfl, _⟩ := DataW.trod_int Tryz.underlying3 h2
    obtain ⟨z3, e3, rfl⟩ := DataW.trod_bool Tryz.underlying4 h3
    have hx := congrArg Prod.fst he
    simp only [DataW.agg.injEq, List.cons.injEq, DataW.lit.injEq, Lit.string.injEq, Lit.int.injEq, Lit.bool.injEq, true_and, and_true] at hx
    obtain ⟨rfl, rfl, rfl, rfl⟩ := hx
    simp only [List.cons.injEq, and_true] at e0 e1 e2 e3
    rw [e0, e1, e2, e3]

theorem tab_global : Tryz.prog.globalNamed "loop.example/g00082/impl.termShapes" = some 0 := by kernel_rfl

theorem tab_laid {w : World} (h : VarReads Tryz.prog w "loop.example/g00082/impl.termShapes" Rows.laid_loop_example_g00082_impl_termShapes) : Tab w ∧ 0 < w.heap.size := by
  obtain ⟨g, t, cs, fuel, p, hg, ht, hv, hd⟩ := h
  obtain rfl := Option.some.inj (tab_global.symm.trans hg)
  obtain rfl := Option.some.inj ((show (Tryz.prog.globals[0]?).map (·.type) = some 116 by kernel_rfl).symm.trans ht)
  have hc : ∀ i, w.cell? ⟨0, i, none⟩ = cs[i]? := World.var?_cell hg hv
  obtain ⟨xs, m, _, hx, hlen, hxl, hall⟩ := DataW.trod_array Tryz.underlying116 hd
  have hxs := congrArg Prod.fst hx
  have hcs : cs.size = 32 := by
    have : Tryz.prog.cellsOf 116 = 32 := by kernel_rfl
    rw [this] at hlen
    simpa using hlen
  have row : ∀ i (b : List UInt8) (l mo : Int) (f : Bool), i < 8 → (xs.map (·.1))[i]? = some (.agg [.lit (.string b), .lit (.int .i64 l), .lit (.int .i64 mo), .lit (.bool f)]) →
      w.cell? ⟨0, i * 4, none⟩ = some (.string ⟨b.toArray⟩) ∧ w.cell? ⟨0, i * 4 + 1, none⟩ = some (.int .i64 l) ∧ w.cell? ⟨0, i * 4 + 2, none⟩ = some (.int .i64 mo) ∧ w.cell? ⟨0, i * 4 + 3, none⟩ = some (.bool f) := by
    intro i b l mo f hi he
    rw [List.getElem?_map] at he
    obtain ⟨⟨d, q⟩, hd1, rfl⟩ := Option.map_eq_some_iff.1 he
    have h1 := hall i hi
    rw [hd1, cells_shape] at h1
    have h2 := row_laid h1
    have h3 : ∀ j, j < 4 → cs[i * 4 + j]? = ([.string ⟨b.toArray⟩, .int .i64 l, .int .i64 mo, .bool f] : List Value)[j]? := by
      intro j hj
      rw [← h2, List.getElem?_take, List.getElem?_drop, if_pos hj, Array.getElem?_toList]
    exact ⟨(hc _).trans (h3 0 (by omega)), (hc _).trans (h3 1 (by omega)), (hc _).trans (h3 2 (by omega)), (hc _).trans (h3 3 (by omega))⟩
  refine ⟨fun k h3 h7 => ?_, ?_⟩
  · have hk : k = 3 ∨ k = 4 ∨ k = 5 ∨ k = 6 ∨ k = 7 := by omega
    simp only at hxs
    rcases hk with rfl | rfl | rfl | rfl | rfl
    · obtain ⟨a, b, c, d⟩ := row 3 _ _ _ _ (by omega) (show _ = some (DataW.agg [.lit (.string [112, 97, 105, 114]), .lit (.int .i64 2), .lit (.int .i64 2), .lit (.bool false)]) by rw [← DataW.agg.inj hxs]; rfl)
      exact ⟨a, b, c, d⟩
    · obtain ⟨a, b, c, d⟩ := row 4 _ _ _ _ (by omega) (show _ = some (DataW.agg [.lit (.string [104, 97, 115, 104]), .lit (.int .i64 1), .lit (.int .i64 8), .lit (.bool false)]) by rw [← DataW.agg.inj hxs]; rfl)
      exact ⟨a, b, c, d⟩
    · obtain ⟨a, b, c, d⟩ := row 5 _ _ _ _ (by omega) (show _ = some (DataW.agg [.lit (.string [115, 105, 103, 110]), .lit (.int .i64 2), .lit (.int .i64 2), .lit (.bool true)]) by rw [← DataW.agg.inj hxs]; rfl)
      exact ⟨a, b, c, d⟩
    · obtain ⟨a, b, c, d⟩ := row 6 _ _ _ _ (by omega) (show _ = some (DataW.agg [.lit (.string [112, 117, 98]), .lit (.int .i64 1), .lit (.int .i64 1), .lit (.bool true)]) by rw [← DataW.agg.inj hxs]; rfl)
      exact ⟨a, b, c, d⟩
    · obtain ⟨a, b, c, d⟩ := row 7 _ _ _ _ (by omega) (show _ = some (DataW.agg [.lit (.string [115, 101, 97, 108]), .lit (.int .i64 2), .lit (.int .i64 2), .lit (.bool false)]) by rw [← DataW.agg.inj hxs]; rfl)
      exact ⟨a, b, c, d⟩
  · have := hc 0
    rw [Array.getElem?_eq_getElem (by omega)] at this
    exact World.block_lt_of_cell? w _ this
end Go.Proofs.YtjaaplcgphlccaaGreatDoor
