/- Words copied, by the specification and by the program. -/
import Derived.Test.YtphabggmbdpibaaDoorPackRead
import Derived.Test.YtphabggmbdpibaaDoorPackHelp
import Derived.Test.YtphabggmbdpibaaDoorShelf
import Derived.Deep.RegionHeld3
import Derived.OneCell
namespace Go.Proofs.YtphabggmbdpibaaDoor
open Go.RowKit
open Go.Lib (hid)

theorem two_put {W : World} {b : Nat} {x y : Value} {t : TypeId} (h : W.heap[b]? = some (.cells #[x, y] t)) (u v : Value) : ((W.setCell ⟨b, 0, none⟩ u).setCell ⟨b, 1, none⟩ v).heap[b]? = some (.cells #[u, v] t) := by
  have h0 : (W.setCell ⟨b, 0, none⟩ u).heap[b]? = some (.cells #[u, y] t) := heap_setCell_same W b 0 _ _ u h
  have h1 : ((W.setCell ⟨b, 0, none⟩ u).setCell ⟨b, 1, none⟩ v).heap[b]? = some (.cells #[u, v] t) := heap_setCell_same _ b 1 _ _ v h0
  exact h1

set_option maxRecDepth 20000 in
set_option maxHeartbeats 2000000 in
theorem kept_calls (s n : Int) (l : List Int) (hl : l.length ≤ 1048576) (b7 : 0 < l.length) (a : Value) (w : World) (ha : RowIn w a l) :
    Calls Tryd.prog 213 #[.agg #[.int .i64 s, a, .int .i64 n]] w fun e w' => ∃ sv, e = .returned (.agg #[.int .i64 s, sv]) ∧ Below w.heap.size w w' ∧ w'.ownsRow w.heap.size 2 1 sv l.length (ints l) := by
  obtain ⟨i0, hi0, hz0, hz1, hz2⟩ := info_parts intInfo
  have HA := hid ha
  have CL := hid (fun b off cap W (hcl : ∀ j u, (ints l)[j]? = some u → W.cell? ⟨b, off + j, none⟩ = some u) => Tryd.slices_Clone_f169 i0 _ 1 8 hi0 hz0 hz1 hz2 rfl (by decide) (fun _ => rfl) b off l.length cap (ints l) W (by rw [ints_len]; omega) (by unfold maxLen; omega) (by omega) hcl (ints_one l))
  obtain ⟨p, c, rfl, hc, hp⟩ := ha
  obtain ⟨g0, o0, rfl, hg0, hcell⟩ := hp (fun e => by rw [e] at b7; simp at b7)
  obtain ⟨W0, hW0⟩ : ∃ W0, W0 = (w.alloc (.cells #[.int .i64 s, .slice (some ⟨g0, o0, none⟩) l.length c, .int .i64 n] 102)).alloc (.cells #[.int .i64 0, .slice none 0 0] 29) := ⟨_, rfl⟩
  have HB0 : Hid (Below w.heap.size w W0) := hid (by rw [hW0]; exact ((Below.refl _ _).alloc (Nat.le_refl _) _).alloc (by simp) _)
  have HV0 : Hid (W0.heap[w.heap.size]? = some (.cells #[.int .i64 s, .slice (some ⟨g0, o0, none⟩) l.length c, .int .i64 n] 102)) := hid (by rw [hW0]; exact heap_two_old _ _)
  have HZ0 : Hid (W0.heap[w.heap.size + 1]? = some (.cells #[.int .i64 0, .slice none 0 0] 29)) := hid (by rw [hW0]; exact heap_two_new _ _)
  have hz0' : w.heap.size + 1 < W0.heap.size := by rw [hW0]; simp
  have k0 : ∀ W : World, Below (w.heap.size + 1) W0 W → W.cell? ⟨w.heap.size, 0, none⟩ = some (.int .i64 s) := fun W hW => (cell_of_row _ _ 0 _ _ _ ((hW.block _ (Nat.lt_succ_self _)).trans HV0.out)).trans rfl
  have k1 : ∀ W : World, Below (w.heap.size + 1) W0 W → W.cell? ⟨w.heap.size, 1, none⟩ = some (.slice (some ⟨g0, o0, none⟩) l.length c) := fun W hW => (cell_of_row _ _ 1 _ _ _ ((hW.block _ (Nat.lt_succ_self _)).trans HV0.out)).trans rfl
  have HCL := hid (fun W (hW : Below (w.heap.size + 1) W0 W) => CL.out g0 o0 c W (fun j u hu => by
    have hj : j < l.length := by
      rcases Nat.lt_or_ge j l.length with h | h
      · exact h
      · rw [List.getElem?_eq_none (by rw [ints_len]; exact h)] at hu; cases hu
    rw [ints_at l j hj] at hu
    injection hu with hu
    rw [← hu, (HB0.out.trans (hW.mono (Nat.le_succ _))).cell (p := ⟨g0, o0 + j, none⟩) hg0]
    exact hcell j hj))
  have HW0 := hid hW0
  clear hW0 hp hcell CL hi0 hz0 hz1 hz2 HA hc hg0
  go_enter Tryd.func213, Tryd.ntmps213
  go_wp2
  rw [← HW0.out]
  go_region_held3 (fun w' => Below (w.heap.size + 1) W0 w') (first | with_reducible assumption | exact hB6 | exact Below.drew (Below.refl _ _) | exact Below.setCell (Below.setCell hB6 (by simp) _) (by simp) _) ((go_at_call 169; refine (HCL.out _ (by with_reducible assumption)).mono ?_; rintro e w6 ⟨v6, rfl, ho6, _, hb6⟩; have hB6 : Below (w.heap.size + 1) W0 w6 := Below.trans (by with_reducible assumption) (hb6.mono (by first | omega | (simp; omega))); obtain ⟨g6, c6, rfl, hb7, hl6⟩ := own_form ho6 b7; have hbo : w6.heap[w.heap.size + 1]? = some (.cells #[.int .i64 0, .slice none 0 0] 29) := (hb6.block (w.heap.size + 1) (by first | omega | (simp; omega))).trans HZ0.out; obtain ⟨q0, q1⟩ := var_cells hbo; have q2 := var_thaw hbo 0; have q3 := var_thaw hbo 1))
  rename_i hS
  have HBO := hid hbo
  have HO6 : Hid (w6.ownsRow W0.heap.size 2 1 (.slice (some ⟨g6, 0, none⟩) l.length c6) l.length (ints l)) := hid ho6
  have HNE := hid (show (Value.slice (some ⟨g6, 0, none⟩) l.length c6).ownBlock ≠ some (w.heap.size + 1) from fun e => by have e2 : g6 = w.heap.size + 1 := Option.some.inj e; have := (HO6.out.lt g6 rfl).1; omega)
  clear hbo
  obtain ⟨r0, r1⟩ := var_cells (two_put HBO.out (.int .i64 s) (.slice (some ⟨g6, 0, none⟩) l.length c6))
  clear q0 q1 q2 q3 k0 k1 hb6 hl6 hB6 ho6 hb7
  go_wp2
  refine bodyPost_ret (v := .agg #[.int .i64 s, .slice (some ⟨g6, 0, none⟩) l.length c6]) (by simp [results, Tryd.results213, go_sem, r0, r1]) rfl ⟨_, rfl, HB0.out.trans (hS.mono (Nat.le_succ _)), ?_⟩
  exact own_raise (ownsRow_setCell_other (ownsRow_setCell_other HO6.out (a := ⟨w.heap.size + 1, 0, none⟩) HNE.out _) (a := ⟨w.heap.size + 1, 1, none⟩) HNE.out _) HB0.out.size
end Go.Proofs.YtphabggmbdpibaaDoor
