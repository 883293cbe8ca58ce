/- The helpers of the laws on Marks: their size, a copy, two held against each other, marks. Written by a program of ours out of the fields. -/
import Derived.Test.YthpnlhbfginkjaaFlatRow
import Derived.Deep.RegionHeld3
import Derived.Test.YthpnlhbfginkjaaArgFloat
namespace Go.Proofs.Ythpnlhbfginkjaa
open Go.RowKit
open Go.Lib (hid)

attribute [local go_sem] run_store_float

theorem encMark_len (e : MarkD) : (encMark e).length = 2 := rfl

theorem encMark_one (e : MarkD) : ∀ v ∈ encMark e, v.oneCell' = true := by
  intro v hv
  simp only [encMark, List.mem_cons, List.not_mem_nil, or_false] at hv
  rcases hv with rfl | rfl <;> rfl

def zMark : MarkD := ⟨0, 0⟩

def szMarkN (_ : MarkD) : Nat := 0

set_option maxHeartbeats 1000000 in
theorem eq_Mark (x0 : Nat) (x1 : Nat) (w : World) :
    Calls Try.prog 40 #[.agg #[.float .f64 x0, .float .f64 x1], .agg #[.float .f64 x0, .float .f64 x1]] w fun e w' => e = .returned (.bool true) ∧ Below w.heap.size w w' := by
  have C0 := fun W => same_float (FS.some x0) (FS.some x0) W
  have C1 := fun W => same_float (FS.some x1) (FS.some x1) W
  go_enter Try.func40, Try.ntmps40
  go_wp2_with (go_at_call 12; refine (C0 _).mono ?_; rintro e wq ⟨rfl, eq⟩; rw [eq]; clear eq wq; refine Hid.out ?_)
  refine hid ?_
  go_wp2_with (go_at_call 12; refine (C1 _).mono ?_; rintro e wq ⟨rfl, eq⟩; rw [eq]; clear eq wq; refine Hid.out ?_)
  refine hid ?_
  go_wp2
  go_ret
  exact ⟨rfl, ((Below.refl _ _).alloc (Nat.le_refl _) _).alloc (by simp) _⟩

set_option maxRecDepth 20000 in
set_option maxHeartbeats 2000000 in
theorem eq_Marks (es : List MarkD) (hn : es.length ≤ 100000000) (a b : Value) (w : World) (ha : FRow encMark 2 w a es) (hb : FRow encMark 2 w b es) :
    Calls Try.prog 13 #[a, b] w fun e w' => e = .returned (.bool true) ∧ Below w.heap.size w w' := by
  obtain ⟨p, c, rfl, _, hp⟩ := ha
  obtain ⟨q, e, rfl, _, hq⟩ := hb
  have HP := hid hp
  have HQ := hid hq
  clear hp hq
  go_enter Try.func13, Try.ntmps13
  go_wp2
  go_loopw [5] (fun iv wr => ∃ i : Nat, i ≤ es.length ∧ iv = .int .i64 i ∧ Below w.heap.size w wr) (fun iv _ => es.length - (RowKit.intOf iv).toNat)
  case atStart => exact ⟨0, Nat.zero_le _, rfl, Below.refl _ _⟩
  case round =>
    obtain ⟨i, hi, rfl, hbel⟩ := hrel
    by_cases hlt : i < es.length
    · have hne : es ≠ [] := fun h => by rw [h] at hlt; cases hlt
      obtain ⟨g, o, rfl, hg, hc⟩ := HP.out hne
      obtain ⟨g2, o2, rfl, hg2, hc2⟩ := HQ.out hne
      have b1 : (0 : Int) ≤ (i : Int) := by omega
      have b2 : (i : Int) < (es.length : Int) := by omega
      have hgw : g < wr.heap.size := Nat.lt_of_lt_of_le hg hbel.size
      have hg2w : g2 < wr.heap.size := Nat.lt_of_lt_of_le hg2 hbel.size
      have k0 : ∀ W : World, Below wr.heap.size wr W → W.cell? ⟨g, o + i * 2, none⟩ = some (.float .f64 es[i].x0) := fun W hW => (hW.cell (p := ⟨g, o + i * 2, none⟩) hgw).trans ((hbel.cell (p := ⟨g, o + i * 2, none⟩) hg).trans (hc i hlt 0 (by decide)))
      have k1 : ∀ W : World, Below wr.heap.size wr W → W.cell? ⟨g, o + i * 2 + 1, none⟩ = some (.float .f64 es[i].x1) := fun W hW => (hW.cell (p := ⟨g, o + i * 2 + 1, none⟩) hgw).trans ((hbel.cell (p := ⟨g, o + i * 2 + 1, none⟩) hg).trans (hc i hlt 1 (by decide)))
      have l0 : ∀ W : World, Below wr.heap.size wr W → W.cell? ⟨g2, o2 + i * 2, none⟩ = some (.float .f64 es[i].x0) := fun W hW => (hW.cell (p := ⟨g2, o2 + i * 2, none⟩) hg2w).trans ((hbel.cell (p := ⟨g2, o2 + i * 2, none⟩) hg2).trans (hc2 i hlt 0 (by decide)))
      have l1 : ∀ W : World, Below wr.heap.size wr W → W.cell? ⟨g2, o2 + i * 2 + 1, none⟩ = some (.float .f64 es[i].x1) := fun W hW => (hW.cell (p := ⟨g2, o2 + i * 2 + 1, none⟩) hg2w).trans ((hbel.cell (p := ⟨g2, o2 + i * 2 + 1, none⟩) hg2).trans (hc2 i hlt 1 (by decide)))
      clear hc hc2
      have HB := hid hbel
      have CE := hid (fun (W : World) => eq_Mark es[i].x0 es[i].x1 W)
      clear hbel
      generalize es[i] = ei at *
      obtain ⟨x0, x1⟩ := ei
      go_wp2
      go_region_held3 (fun w' => Below wr.heap.size wr w') (first | with_reducible assumption | exact Below.drew (Below.refl _ _) | exact below_hop (by assumption) (by simp) (by assumption)) ((go_at_call 40; refine (CE.out _).mono ?_; rintro e w5 ⟨rfl, hb5⟩))
      rename_i hS
      have HS := hid (HB.out.trans (hS.mono HB.out.size))
      clear hS hb5
      go_wp2
      go_roundw
      case rel => exact ⟨i + 1, by omega, by go_num, HS.out⟩
      case measure => simp [RowKit.intOf]; omega
    · have hie : i = es.length := by omega
      subst hie
      go_wp2
      go_ret
      exact ⟨rfl, hbel⟩

set_option maxRecDepth 20000 in
set_option maxHeartbeats 1000000 in
theorem to_Mark (x0 : Nat) (x1 : Nat) (w : World) :
    Calls Try.prog 35 #[.agg #[.float .f64 x0, .float .f64 x1]] w fun e w' => e = .returned (.agg #[.float .f64 x0, .float .f64 x1]) ∧ Below w.heap.size w w' := by
  go_enter Try.func35, Try.ntmps35
  go_wp2
  refine bodyPost_ret (v := .agg #[.float .f64 x0, .float .f64 x1]) (by simp [results, Try.results35, go_sem]) rfl ⟨rfl, ?_⟩
  exact (((Below.refl _ _).alloc (Nat.le_refl _) _).alloc (by simp) _).alloc (by simp; omega) _

theorem infoMark : (Try.prog.info? 47).map (fun i => (i.zero, i.size, i.bytes)) = some (some (.agg #[Value.float .f64 0, Value.float .f64 0]), 2, 16) := by kernel_rfl

set_option maxRecDepth 20000 in
set_option maxHeartbeats 2000000 in
theorem to_Marks (es : List MarkD) (hn : es.length ≤ 1048576) (a : Value) (w : World) (ha : FArg encMark 2 w a es) :
    Calls Try.prog 10 #[a] w fun e w' => e = .returned (.slice (some ⟨w.heap.size, 0, none⟩) es.length es.length) ∧ Below w.heap.size w w' ∧ w'.ownsRow w.heap.size 47 2 (.slice (some ⟨w.heap.size, 0, none⟩) es.length es.length) es.length (flat encMark es) := by
  obtain ⟨p, c, rfl, hp⟩ := ha
  have HP := hid hp
  clear hp
  obtain ⟨i0, hi0, hz0, hz1, hz2⟩ := info_parts infoMark
  obtain ⟨wm, hrun, hown, hgr⟩ := run_make_full (P := Try.prog) w w.heap.size 26 47 i0 _ 2 Try.underlying26 hi0 hz0 hz1 .i64 .i64 es.length (by rw [hz2]; omega) (by unfold maxLen; omega) (Nat.le_refl _)
  have hcells : (madeCells (Value.agg #[Value.float .f64 0, Value.float .f64 0]).cells (es.length * 2)).toList = flat encMark (fill zMark es 0) := by
    rw [fill_zero]
    exact made_flat (by decide) encMark_len zMark es.length
  rw [hcells] at hown
  have hbm : Below w.heap.size w wm := ⟨hgr.os, hgr.tape, hgr.output, hgr.size, fun k hk => hgr.block k hk (by simp)⟩
  have HB := hid hbm
  have HO := hid hown
  have hzm := hgr.size
  clear hown hcells hgr hi0 hz0 hz1 hz2 hbm
  go_enter Try.func10, Try.ntmps10
  go_wp2
  go_loopw [4] (fun iv wr => ∃ i : Nat, i ≤ es.length ∧ iv = .int .i64 i ∧ Below w.heap.size w wr ∧ wr.ownsRow w.heap.size 47 2 (.slice (some ⟨w.heap.size, 0, none⟩) es.length es.length) es.length (flat encMark (fill zMark es i))) (fun iv _ => es.length - (RowKit.intOf iv).toNat)
  case atStart => exact ⟨0, Nat.zero_le _, rfl, HB.out, HO.out⟩
  case round =>
    obtain ⟨i, hi, rfl, hbel, hown⟩ := hrel
    have HB2 := hid hbel
    have HO2 := hid hown
    by_cases hlt : i < es.length
    · obtain ⟨ad, rfl, hbl, hc⟩ := HP.out i hlt
      have c0 : wr.cell? (ad.add (i * 2)) = some (.float .f64 es[i].x0) := by
        rw [show ad.add (i * 2) = ad.add (i * 2 + 0) from rfl]
        rw [hbel.cell (p := ad.add (i * 2 + 0)) (by rw [add_block]; exact hbl)]
        exact hc 0 (by decide)
      have c1 : wr.cell? ⟨(ad.add (i * 2)).block, (ad.add (i * 2)).off + 1, none⟩ = some (.float .f64 es[i].x1) := by
        rw [add_at, if_neg (by omega)]
        rw [hbel.cell (p := ad.add (i * 2 + 1)) (by rw [add_block]; exact hbl)]
        exact hc 1 (by decide)
      have HST := hid (fun (W : World) (ho : W.ownsRow w.heap.size 47 2 (.slice (some ⟨w.heap.size, 0, none⟩) es.length es.length) es.length (flat encMark (fill zMark es i))) => (show (((W.setCell ⟨w.heap.size, i * 2, none⟩ (.float .f64 es[i].x0)).setCell ⟨w.heap.size, i * 2 + 1, none⟩ (.float .f64 es[i].x1))).ownsRow w.heap.size 47 2 (.slice (some ⟨w.heap.size, 0, none⟩) es.length es.length) es.length (flat encMark (fill zMark es (i + 1))) from by
        have h2 := ((ho.stored (i * 2) (.float .f64 es[i].x0)).1.stored (i * 2 + 1) (.float .f64 es[i].x1)).1
        rw [← fill_set zMark es i hlt, ← setMany_flat encMark_len (fill zMark es i) i (by rw [fill_len _ _ _ hi]; exact hlt)]
        exact h2))
      have HCELL := hid (fun (W : World) (ho : W.ownsRow w.heap.size 47 2 (.slice (some ⟨w.heap.size, 0, none⟩) es.length es.length) es.length (flat encMark (fill zMark es i))) (j : Nat) (hj : j < es.length * 2) => own_some ho j hj)
      have CT := hid (fun (W : World) => to_Mark es[i].x0 es[i].x1 W)
      clear hbel hown hc hrun
      generalize es[i] = ei at *
      obtain ⟨x0, x1⟩ := ei
      go_wp2_with (go_at_call 35; refine (CT.out _).mono ?_; rintro e w5 ⟨rfl, hb5⟩; refine Hid.out ?_)
      refine hid ?_
      have HO5 := hid (own_below HO2.out hb5)
      have HB5 := hid (HB2.out.trans (hb5.mono HB2.out.size))
      obtain ⟨u0, a0⟩ := HCELL.out w5 HO5.out (i * 2) (by omega)
      have f0 := HO5.out.frozenAt (i * 2)
      obtain ⟨u1, a1⟩ := HCELL.out w5 HO5.out (i * 2 + 1) (by omega)
      have f1 := HO5.out.frozenAt (i * 2 + 1)
      have HS5 := hid (HST.out w5 HO5.out)
      clear hb5
      go_wp2
      go_roundw
      case rel => exact ⟨i + 1, by omega, by go_num, ((HB5.out.setCell (p := ⟨w.heap.size, i * 2, none⟩) (Nat.le_refl _) _).setCell (p := ⟨w.heap.size, i * 2 + 1, none⟩) (Nat.le_refl _) _), HS5.out⟩
      case measure => simp [RowKit.intOf]; omega
    · have hie : i = es.length := by omega
      subst hie
      clear hbel hown hrun
      go_wp2
      go_ret
      exact ⟨rfl, HB2.out, by have := HO2.out; rw [fill_all] at this; exact this⟩

theorem sz_Marks (es : List MarkD) (hm : es.length ≤ maxLen) (k : Nat) (hk : k ≤ 1048576) (a : Value) (w : World) (ha : FArg encMark 2 w a es) :
    Calls Try.prog 8 #[a, .int .i64 k] w fun e w' => (∃ r : Int, e = .returned (.int .i64 r) ∧ (r < 0 ∨ 0 ≤ r ∧ r + (es.length : Int) = (k : Int))) ∧ Below w.heap.size w w' := by
  obtain ⟨p, c, rfl, _⟩ := ha
  unfold maxLen at hm
  by_cases h : es.length ≤ k
  · go_enter Try.func8, Try.ntmps8
    go_wp2
    go_ret
    exact ⟨⟨_, rfl, Or.inr ⟨by omega, by omega⟩⟩, Below.refl _ _⟩
  · go_enter Try.func8, Try.ntmps8
    go_wp2
    go_ret
    exact ⟨⟨-1, rfl, Or.inl (by omega)⟩, Below.refl _ _⟩

end Go.Proofs.Ythpnlhbfginkjaa
