/- Blend, the specification's. -/
import Derived.Test.YthpnlhbfginkjaaFlatRow
import Derived.Test.YthpnlhbfginkjaaArgFloat
import Derived.Test.YthpnlhbfginkjaaLawAbove
namespace Go.Proofs.Ythpnlhbfginkjaa
open Go.RowKit
open Go.Lib (hid)

theorem fw_cell (op : BinOp) (x y : Nat) (w : World) (p : Addr) : (fw op x y w).cell? p = w.cell? p := by
  unfold fw
  split <;> rfl

attribute [local go_sem] run_fadd run_fsub run_fmul run_fquo run_store_float fw_cell

def bothF (e : MarkD) : Bool := finB e.x0 && finB e.x1

/-- The two sums of Blend. -/
def blStep (s : Option Nat × Option Nat) (e : MarkD) : Option Nat × Option Nat :=
  if bothF e = true then (fop .add s.1 (fop .mul (some e.x0) (some e.x1)), fop .add s.2 (some e.x0)) else s

def blSum (l : List MarkD) : Option Nat × Option Nat := l.foldl blStep (some 0, some 0)

def blendO (l : List MarkD) : Option Nat := if l.length ≤ 100 then fop .quo (blSum l).1 (blSum l).2 else none

theorem blSum_next (l : List MarkD) (i : Nat) (h : i < l.length) : blSum (l.take (i + 1)) = blStep (blSum (l.take i)) l[i] := by
  unfold blSum
  rw [List.take_succ_eq_append_getElem h, List.foldl_append]
  rfl

set_option maxRecDepth 20000 in
set_option maxHeartbeats 2000000 in
theorem blend_spec (es : List MarkD) (hn : es.length ≤ 1000000000) (a : Value) (w : World) (ha : FRow encMark 2 w a es) :
    Calls Try.prog 9 #[a] w (FPost (blendO es) w) := by
  unfold FPost
  obtain ⟨p, c, rfl, _, hp⟩ := ha
  have HP := hid hp
  clear hp
  by_cases h100 : es.length ≤ 100
  · have HO : Hid (blendO es = fop .quo (blSum es).1 (blSum es).2) := hid (by unfold blendO; rw [if_pos h100])
    go_enter Try.func9, Try.ntmps9
    go_wp2
    go_loopw [3, 4, 5] (fun av bv iv wr => ∃ i r s : Nat, i ≤ es.length ∧ iv = .int .i64 i ∧ av = .float .f64 r ∧ bv = .float .f64 s ∧ Hid (FS (blSum (es.take i)).1 r) ∧ Hid (FS (blSum (es.take i)).2 s) ∧ Below w.heap.size w wr) (fun _ _ iv _ => es.length - (RowKit.intOf iv).toNat)
    case atStart => exact ⟨0, 0, 0, Nat.zero_le _, rfl, rfl, rfl, hid (FS.some 0), hid (FS.some 0), Below.refl _ _⟩
    case round =>
      obtain ⟨i, r, s, hi, rfl, rfl, rfl, HR, HT, hbel⟩ := hrel
      by_cases hlt : i < es.length
      · have hne : es ≠ [] := fun h => by rw [h] at hlt; cases hlt
        obtain ⟨g, o, rfl, hg, hc⟩ := HP.out hne
        have c0 : wr.cell? ⟨g, o + i * 2, none⟩ = some (.float .f64 es[i].x0) := (hbel.cell (p := ⟨g, o + i * 2, none⟩) hg).trans (hc i hlt 0 (by decide))
        have c1 : wr.cell? ⟨g, o + i * 2 + 1, none⟩ = some (.float .f64 es[i].x1) := (hbel.cell (p := ⟨g, o + i * 2 + 1, none⟩) hg).trans (hc i hlt 1 (by decide))
        have HN := hid (blSum_next es i hlt)
        have HB := hid hbel
        clear hc hbel
        generalize es[i] = e at *
        obtain ⟨x0, x1⟩ := e
        have b1 : (0 : Int) ≤ (i : Int) := by omega
        have b2 : (i : Int) < (es.length : Int) := by omega
        cases f0 : finB x0 with
        | false =>
          have HN2 : Hid (blSum (es.take (i + 1)) = blSum (es.take i)) := hid (by rw [HN.out]; unfold blStep bothF; rw [f0, if_neg (by simp)])
          go_wp2_with (go_at_call 34; refine (known_inf f0 _).mono ?_; rintro e w4 ⟨rfl, hb4⟩; have HB4 := hid hb4; clear hb4)
          go_wp2
          go_roundw
          case rel => exact ⟨i + 1, _, _, by omega, by go_num, rfl, rfl, hid (by rw [HN2.out]; exact HR.out), hid (by rw [HN2.out]; exact HT.out), by first | exact HB4.out | exact HB.out.trans (((Below.refl _ _).alloc (Nat.le_refl _) _).trans (HB4.out.mono (by simp)) |>.mono HB.out.size)⟩
          case measure => simp [RowKit.intOf]; omega
        | true =>
          cases f1 : finB x1 with
          | false =>
            have HN2 : Hid (blSum (es.take (i + 1)) = blSum (es.take i)) := hid (by rw [HN.out]; unfold blStep bothF; rw [f0, f1, if_neg (by simp)])
            go_wp2_with (first | (go_at_call 34; refine (known_fin f0 _).mono ?_; rintro e wq ⟨rfl, eq⟩; rw [eq]; clear eq wq) | (go_at_call 34; refine (known_inf f1 _).mono ?_; rintro e w4 ⟨rfl, hb4⟩; have HB4 := hid hb4; clear hb4))
            go_wp2
            go_roundw
            case rel => exact ⟨i + 1, _, _, by omega, by go_num, rfl, rfl, hid (by rw [HN2.out]; exact HR.out), hid (by rw [HN2.out]; exact HT.out), by exact HB.out.trans (((Below.refl _ _).alloc (Nat.le_refl _) _).trans (HB4.out.mono (by simp)) |>.mono HB.out.size)⟩
            case measure => simp [RowKit.intOf]; omega
          | true =>
            have HN2 : Hid (blSum (es.take (i + 1)) = (fop .add (blSum (es.take i)).1 (fop .mul (some x0) (some x1)), fop .add (blSum (es.take i)).2 (some x0))) := hid (by rw [HN.out]; unfold blStep bothF; rw [f0, f1, if_pos (by rfl)])
            go_wp2_with (go_at_call 34; first | (refine (known_fin f0 _).mono ?_; rintro e wq ⟨rfl, eq⟩; rw [eq]; clear eq wq) | (refine (known_fin f1 _).mono ?_; rintro e wq ⟨rfl, eq⟩; rw [eq]; clear eq wq))
            go_wp2
            go_roundw
            case rel => exact ⟨i + 1, _, _, by omega, by go_num, rfl, rfl, hid (by rw [HN2.out]; exact FS.op .add HR.out (FS.op .mul (FS.some x0) (FS.some x1) _) _), hid (by rw [HN2.out]; exact FS.op .add HT.out (FS.some x0) _), HB.out.trans ((((((Below.refl _ _).alloc (Nat.le_refl _) _).trans (fw_below _ _ _ _ _)).trans (fw_below _ _ _ _ _)).trans (fw_below _ _ _ _ _)).mono HB.out.size)⟩
            case measure => simp [RowKit.intOf]; omega
      · have hie : i = es.length := by omega
        subst hie
        go_wp2
        go_ret
        exact ⟨_, rfl, by rw [HO.out]; have h1 := HR.out; have h2 := HT.out; rw [List.take_length] at h1 h2; exact FS.op .quo h1 h2 _, by first | exact hbel | exact hbel.trans (fw_below _ _ _ _ _)⟩
  · have HO : Hid (blendO es = none) := hid (by unfold blendO; rw [if_neg h100])
    go_enter Try.func9, Try.ntmps9
    go_wp2_with (go_at_call 33; refine (none_spec _).mono ?_; rintro e w2 ⟨r, rfl, hr, hb⟩)
    go_ret
    exact ⟨_, rfl, by rw [HO.out]; exact hr, hb⟩
end Go.Proofs.Ythpnlhbfginkjaa
