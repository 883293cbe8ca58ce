/- The helpers of the laws on an Nv: two held against each other, marks. -/
import Derived.Test.YtphabggmbdpibaaDoorBase
import Derived.Test.YtphabggmbdpibaaDoorIntHelp
namespace Go.Proofs.YtphabggmbdpibaaDoor
open Go.RowKit
open Go.Lib (hid)

theorem eq_nv (s : Int) (l : List Int) (hn : l.length ≤ 1000000000) (a b : Value) (w : World) (ha : RowIn w a l) (hb : RowIn w b l) :
    Calls Tryd.prog 57 #[.agg #[.int .i64 s, a], .agg #[.int .i64 s, b]] w fun e w' => e = .returned (.bool true) ∧ Below w.heap.size w w' := by
  have HA := hid ha
  have HB := hid hb
  obtain ⟨p, c, rfl, _, _⟩ := ha
  obtain ⟨q, d, rfl, _, _⟩ := hb
  have HW : Hid (Below w.heap.size w ((w.alloc (.cells #[.int .i64 s, .slice p l.length c] 29)).alloc (.cells #[.int .i64 s, .slice q l.length d] 29))) := hid (((Below.refl _ _).alloc (Nat.le_refl _) _).alloc (by simp) _)
  go_enter Tryd.func57, Tryd.ntmps57
  go_wp2_with (go_at_call 114; refine (eq_ints l hn _ _ _ (HA.out.on HW.out) (HB.out.on HW.out)).mono ?_; rintro e w1 ⟨rfl, hb1⟩)
  go_ret
  exact ⟨rfl, HW.out.trans (hb1.mono HW.out.size)⟩

theorem held_nv (s : Int) (k n : Nat) (hn : k + n ≤ 1000000000) (a : Value) (w : World) (ha : RowIn w a (imarks k n)) :
    Calls Tryd.prog 61 #[.agg #[.int .i64 s, a], .int .i64 k] w fun e w' => e = .returned (.int .i64 ((k + n : Nat) : Int)) ∧ Below w.heap.size w w' := by
  have HA := hid ha
  obtain ⟨p, c, rfl, _, _⟩ := ha
  have HW : Hid (Below w.heap.size w (w.alloc (.cells #[.int .i64 s, .slice p (imarks k n).length c] 29))) := hid ((Below.refl _ _).alloc (Nat.le_refl _) _)
  go_enter Tryd.func61, Tryd.ntmps61
  go_wp2_with (go_at_call 117; refine (held_ints k n hn _ _ (HA.out.on HW.out)).mono ?_; rintro e w1 ⟨rfl, hb1⟩)
  go_ret
  exact ⟨rfl, HW.out.trans (hb1.mono HW.out.size)⟩

theorem mark_nv (s : Int) (l : List Int) (k : Nat) (hn : k + l.length ≤ 1000000000) (base : Nat) (a : Value) (w : World) (ha : w.ownsRow base 2 1 a l.length (ints l)) :
    Calls Tryd.prog 59 #[.agg #[.int .i64 s, a], .int .i64 k] w fun e w' => e = .returned (.int .i64 ((k + l.length : Nat) : Int)) ∧ w.grownBy w' a.ownBlock ∧ w'.ownsRow base 2 1 a l.length (ints (imarks k l.length)) := by
  obtain ⟨p, c, rfl, _, _⟩ := row_in_own ha
  have HW : Hid (Below w.heap.size w (w.alloc (.cells #[.int .i64 s, .slice p l.length c] 29))) := hid ((Below.refl _ _).alloc (Nat.le_refl _) _)
  have HA := hid (own_below ha HW.out)
  clear ha
  go_enter Tryd.func59, Tryd.ntmps59
  go_wp2_with (go_at_call 115; refine (mark_ints l k hn base _ _ HA.out).mono ?_; rintro e w1 ⟨rfl, hg1, ho1⟩; have HG := hid hg1; have HO := hid ho1; clear hg1 ho1)
  go_ret
  exact ⟨rfl, grown_trans (grown_below HW.out) HG.out, HO.out⟩

theorem var_cells {W : World} {b : Nat} {x y : Value} {t : TypeId} {fr : Nat × Nat} (h : W.heap[b]? = some (.cells #[x, y] t fr)) : W.cell? ⟨b, 0, none⟩ = some x ∧ W.cell? ⟨b, 1, none⟩ = some y :=
  ⟨(cell_of_row W b 0 _ _ _ h).trans rfl, (cell_of_row W b 1 _ _ _ h).trans rfl⟩
end Go.Proofs.YtphabggmbdpibaaDoor
