/- The helpers of the laws on Events: their size, a copy, two held against each other, marks. Written by a program of ours out of the fields. -/
import Derived.Test.YtnkaabgjfdbdoaaGreatDoorMarks
import Derived.Test.YtnkaabgjfdbdoaaGreatDoorFlatRow
import Derived.Deep.RegionHeld3
namespace Go.Proofs.YtnkaabgjfdbdoaaGreatDoor
open Go.RowKit
open Go.Lib (hid)

structure EventD where
  x0 : Int
  x1 : ByteArray

def encEvent (e : EventD) : List Value := [.int .i64 e.x0, .string e.x1]

theorem encEvent_len (e : EventD) : (encEvent e).length = 2 := rfl

theorem encEvent_one (e : EventD) : ∀ v ∈ encEvent e, v.oneCell' = true := by
  intro v hv
  simp only [encEvent, List.mem_cons, List.not_mem_nil, or_false] at hv
  rcases hv with rfl | rfl <;> rfl

def zEvent : EventD := ⟨0, ⟨#[]⟩⟩

def szEventN (e : EventD) : Nat := e.x1.size

/-- Each text is one that can be, each number one of 64 bits. -/
def tameEvent (e : EventD) : Prop := e.x1.size ≤ 9223372036854775807 ∧ (-9223372036854775808 ≤ e.x0 ∧ e.x0 ≤ 9223372036854775807)

def mkEvent (k i : Nat) : EventD := ⟨((k + 2 * i + 0 : Nat) : Int), ⟨(mtext (k + 2 * i + 1)).toArray⟩⟩

def marksEvent (k n : Nat) : List EventD := (List.range n).map (mkEvent k)

theorem marksEvent_len (k n : Nat) : (marksEvent k n).length = n := by simp [marksEvent]

theorem marksEvent_at (k n i : Nat) (h : i < (marksEvent k n).length) : (marksEvent k n)[i] = mkEvent k i := by simp [marksEvent]

set_option maxHeartbeats 1000000 in
theorem eq_Event (x0 : Int) (x1 : ByteArray) (w : World) :
    Calls Tryz.prog 110 #[.agg #[.int .i64 x0, .string x1], .agg #[.int .i64 x0, .string x1]] w fun e w' => e = .returned (.bool true) ∧ Below w.heap.size w w' := by
  have hy1 : (x1.toList == x1.toList) = true := by simp
  have hn1 : (x1.toList != x1.toList) = false := by simp
  go_enter Tryz.func110, Tryz.ntmps110
  go_wp2
  go_ret
  exact ⟨rfl, ((Below.refl _ _).alloc (Nat.le_refl _) _).alloc (by simp) _⟩

set_option maxRecDepth 20000 in
set_option maxHeartbeats 2000000 in
theorem eq_Events (es : List EventD) (hn : es.length ≤ 100000000) (a b : Value) (w : World) (ha : FRow encEvent 2 w a es) (hb : FRow encEvent 2 w b es) :
    Calls Tryz.prog 48 #[a, b] w fun e w' => e = .returned (.bool true) ∧ Below w.heap.size w w' := by
  obtain ⟨p, c, rfl, _, hp⟩ := ha
  obtain ⟨q, e, rfl, _, hq⟩ := hb
  have HP := hid hp
  have HQ := hid hq
  clear hp hq
  go_enter Tryz.func48, Tryz.ntmps48
  go_wp2
  go_loopw [5] (fun iv wr => ∃ i : Nat, i ≤ es.length ∧ iv = .int .i64 i ∧ Below w.heap.size w wr) (fun iv _ => es.length - (RowKit.intOf iv).toNat)
  case atStart => exact ⟨0, Nat.zero_le _, rfl, Below.refl _ _⟩
  case round =>
    obtain ⟨i, hi, rfl, hbel⟩ := hrel
    by_cases hlt : i < es.length
    · have hne : es ≠ [] := fun h => by rw [h] at hlt; cases hlt
      obtain ⟨g, o, rfl, hg, hc⟩ := HP.out hne
      obtain ⟨g2, o2, rfl, hg2, hc2⟩ := HQ.out hne
      have b1 : (0 : Int) ≤ (i : Int) := by omega
      have b2 : (i : Int) < (es.length : Int) := by omega
      have hgw : g < wr.heap.size := Nat.lt_of_lt_of_le hg hbel.size
      have hg2w : g2 < wr.heap.size := Nat.lt_of_lt_of_le hg2 hbel.size
      have k0 : ∀ W : World, Below wr.heap.size wr W → W.cell? ⟨g, o + i * 2, none⟩ = some (.int .i64 es[i].x0) := fun W hW => (hW.cell (p := ⟨g, o + i * 2, none⟩) hgw).trans ((hbel.cell (p := ⟨g, o + i * 2, none⟩) hg).trans (hc i hlt 0 (by decide)))
      have k1 : ∀ W : World, Below wr.heap.size wr W → W.cell? ⟨g, o + i * 2 + 1, none⟩ = some (.string es[i].x1) := fun W hW => (hW.cell (p := ⟨g, o + i * 2 + 1, none⟩) hgw).trans ((hbel.cell (p := ⟨g, o + i * 2 + 1, none⟩) hg).trans (hc i hlt 1 (by decide)))
      have l0 : ∀ W : World, Below wr.heap.size wr W → W.cell? ⟨g2, o2 + i * 2, none⟩ = some (.int .i64 es[i].x0) := fun W hW => (hW.cell (p := ⟨g2, o2 + i * 2, none⟩) hg2w).trans ((hbel.cell (p := ⟨g2, o2 + i * 2, none⟩) hg2).trans (hc2 i hlt 0 (by decide)))
      have l1 : ∀ W : World, Below wr.heap.size wr W → W.cell? ⟨g2, o2 + i * 2 + 1, none⟩ = some (.string es[i].x1) := fun W hW => (hW.cell (p := ⟨g2, o2 + i * 2 + 1, none⟩) hg2w).trans ((hbel.cell (p := ⟨g2, o2 + i * 2 + 1, none⟩) hg2).trans (hc2 i hlt 1 (by decide)))
      clear hc hc2
      have HB := hid hbel
      have CE := hid (fun (W : World) => eq_Event es[i].x0 es[i].x1 W)
      clear hbel
      generalize es[i] = ei at *
      obtain ⟨x0, x1⟩ := ei
      go_wp2
      go_region_held3 (fun w' => Below wr.heap.size wr w') (first | with_reducible assumption | exact Below.drew (Below.refl _ _) | exact below_hop (by assumption) (by simp) (by assumption)) ((go_at_call 110; refine (CE.out _).mono ?_; rintro e w5 ⟨rfl, hb5⟩))
      rename_i hS
      have HS := hid (HB.out.trans (hS.mono HB.out.size))
      clear hS hb5
      go_wp2
      go_roundw
      case rel => exact ⟨i + 1, by omega, by go_num, HS.out⟩
      case measure => simp [RowKit.intOf]; omega
    · have hie : i = es.length := by omega
      subst hie
      go_wp2
      go_ret
      exact ⟨rfl, hbel⟩

set_option maxRecDepth 20000 in
set_option maxHeartbeats 2000000 in
theorem mark_Events (es : List EventD) (k : Nat) (h0 : 0 < k) (hn : k + 2 * es.length ≤ 1000000000) (base : Nat) (a : Value) (w : World) (ha : w.ownsRow base 124 2 a es.length (flat encEvent es)) :
    Calls Tryz.prog 68 #[a, .int .i64 k] w fun e w' => e = .returned (.int .i64 ((k + 2 * es.length : Nat) : Int)) ∧ w.grownBy w' a.ownBlock ∧ w'.ownsRow base 124 2 a es.length (flat encEvent (marksEvent k es.length)) := by
  rcases ha.2 with ⟨rfl, hz⟩ | ⟨g, c, _, rfl, _⟩
  · have hes : es = [] := List.eq_nil_of_length_eq_zero hz
    subst hes
    have HA := hid ha
    clear ha
    go_enter Tryz.func68, Tryz.ntmps68
    go_wp2
    go_loopw [1, 5] (fun kv iv wr => iv = .int .i64 0 ∧ kv = .int .i64 k ∧ wr = w) (fun _ iv _ => 0)
    case atStart => exact ⟨rfl, rfl, rfl⟩
    case round =>
      obtain ⟨rfl, rfl, rfl⟩ := hrel
      go_wp2
      go_ret
      exact ⟨rfl, grown_refl _ _, HA.out⟩
  · have HA := hid ha
    clear ha
    go_enter Tryz.func68, Tryz.ntmps68
    go_wp2
    go_loopw [1, 5] (fun kv iv wr => ∃ i : Nat, i ≤ es.length ∧ iv = .int .i64 i ∧ kv = .int .i64 ((k + 2 * i : Nat) : Int) ∧ w.grownBy wr (some g) ∧ wr.ownsRow base 124 2 (.slice (some ⟨g, 0, none⟩) es.length c) es.length (flat encEvent (mix (mkEvent k) es i))) (fun _ iv _ => es.length - (RowKit.intOf iv).toNat)
    case atStart => exact ⟨0, Nat.zero_le _, rfl, rfl, grown_refl _ _, by rw [mix_zero]; exact HA.out⟩
    case round =>
      obtain ⟨i, hi, rfl, rfl, hgr, hown⟩ := hrel
      have HG := hid hgr
      clear hgr
      by_cases hlt : i < es.length
      · have b1 : (0 : Int) ≤ (i : Int) := by omega
        have b2 : (i : Int) < (es.length : Int) := by omega
        obtain ⟨u0, a0⟩ := own_some hown (i * 2) (by omega)
        have f0 := hown.frozenAt (i * 2)
        obtain ⟨u1, a1⟩ := own_some hown (i * 2 + 1) (by omega)
        have f1 := hown.frozenAt (i * 2 + 1)
        have HO0 := hid hown
        clear hown
        go_wp2_with (go_at_call 127; refine (mark_text (k + 2 * i + 1) _ (by omega) (by omega) (by omega) _).mono ?_; rintro e y1 ⟨rfl, hy1⟩; refine Hid.out ?_)
        refine hid ?_
        have HO1 := hid (own_below (HO0.out.stored (i * 2) (.int .i64 ((k + 2 * i : Nat) : Int))).1 hy1)
        have HG1 := hid (grown_trans (grown_trans HG.out (HO0.out.stored (i * 2) (.int .i64 ((k + 2 * i : Nat) : Int))).2) (grown_below hy1))
        clear hy1 a0 a1 f0 f1
        obtain ⟨u1_1, a1_1⟩ := own_some HO1.out (i * 2 + 1) (by omega)
        have f1_1 := HO1.out.frozenAt (i * 2 + 1)
        have HON := hid (HO1.out.stored (i * 2 + 1) (.string ⟨(mtext (k + 2 * i + 1)).toArray⟩)).1
        have HGN := hid (grown_trans HG1.out (HO1.out.stored (i * 2 + 1) (.string ⟨(mtext (k + 2 * i + 1)).toArray⟩)).2)
        have HSET := hid (show ((flat encEvent (mix (mkEvent k) es i)).set (i * 2) (.int .i64 ((k + 2 * i : Nat) : Int))).set (i * 2 + 1) (.string ⟨(mtext (k + 2 * i + 1)).toArray⟩) = flat encEvent (mix (mkEvent k) es (i + 1)) from by
          rw [← mix_set (mkEvent k) es i hlt, ← setMany_flat encEvent_len (mix (mkEvent k) es i) i (by rw [mix_len _ _ _ hi]; exact hlt)]
          rfl)
        go_wp2
        go_roundw
        case rel => exact ⟨i + 1, by omega, by go_num, by rw [show k + 2 * (i + 1) = k + 2 * i + 1 + 1 by omega]; go_num, HGN.out, by rw [← HSET.out]; exact HON.out⟩
        case measure => simp [RowKit.intOf]; omega
      · have hie : i = es.length := by omega
        subst hie
        have HO := hid hown
        clear hown
        go_wp2
        go_ret
        exact ⟨rfl, HG.out, by have := HO.out; rw [mix_all _ _ _ rfl] at this; exact this⟩

set_option maxRecDepth 20000 in
set_option maxHeartbeats 2000000 in
theorem held_Events (k n : Nat) (h0 : 0 < k) (hn : k + 2 * n ≤ 1000000000) (a : Value) (w : World) (ha : FRow encEvent 2 w a (marksEvent k n)) :
    Calls Tryz.prog 72 #[a, .int .i64 k] w fun e w' => e = .returned (.int .i64 ((k + 2 * n : Nat) : Int)) ∧ Below w.heap.size w w' := by
  obtain ⟨p, c, rfl, _, hp⟩ := ha
  rw [marksEvent_len]
  have HP := hid hp
  clear hp
  go_enter Tryz.func72, Tryz.ntmps72
  go_wp2
  go_loopw [1, 5] (fun kv iv wr => ∃ i : Nat, i ≤ n ∧ iv = .int .i64 i ∧ kv = .int .i64 ((k + 2 * i : Nat) : Int) ∧ Below w.heap.size w wr) (fun _ iv _ => n - (RowKit.intOf iv).toNat)
  case atStart => exact ⟨0, Nat.zero_le _, rfl, rfl, Below.refl _ _⟩
  case round =>
    obtain ⟨i, hi, rfl, rfl, hbel⟩ := hrel
    by_cases hlt : i < n
    · have hne : marksEvent k n ≠ [] := fun h => by
        have := marksEvent_len k n
        rw [h] at this
        simp at this
        omega
      obtain ⟨g, o, rfl, hg, hc⟩ := HP.out hne
      have b1 : (0 : Int) ≤ (i : Int) := by omega
      have b2 : (i : Int) < (n : Int) := by omega
      have hgw : g < wr.heap.size := Nat.lt_of_lt_of_le hg hbel.size
      have k0 : ∀ W : World, Below wr.heap.size wr W → W.cell? ⟨g, o + i * 2, none⟩ = some (.int .i64 ((k + 2 * i : Nat) : Int)) := fun W hW => (hW.cell (p := ⟨g, o + i * 2, none⟩) hgw).trans ((hbel.cell (p := ⟨g, o + i * 2, none⟩) hg).trans ((hc i (by rw [marksEvent_len]; exact hlt) 0 (by decide)).trans (by rw [marksEvent_at]; rfl)))
      have k1 : ∀ W : World, Below wr.heap.size wr W → W.cell? ⟨g, o + i * 2 + 1, none⟩ = some (.string ⟨(mtext (k + 2 * i + 1)).toArray⟩) := fun W hW => (hW.cell (p := ⟨g, o + i * 2 + 1, none⟩) hgw).trans ((hbel.cell (p := ⟨g, o + i * 2 + 1, none⟩) hg).trans ((hc i (by rw [marksEvent_len]; exact hlt) 1 (by decide)).trans (by rw [marksEvent_at]; rfl)))
      have HB := hid hbel
      clear hbel hc
      have a0 := k0 wr (Below.refl _ _)
      have a1 := k1 wr (Below.refl _ _)
      go_wp2
      go_region_held3 (fun w' => Below wr.heap.size wr w') (first | with_reducible assumption | exact Below.drew (Below.refl _ _) | exact Below.drew (by assumption) | exact below_hop (by assumption) (by simp) (by assumption)) ((go_at_call 127; refine (mark_text (k + 2 * i + 1) _ (by omega) (by omega) (by omega) _).mono ?_; rintro e y1 ⟨rfl, hy1⟩))
      rename_i hS1
      have hs1 := hS1
      clear hy1 hS1 a0 a1
      have HE := hid (HB.out.trans (hs1.mono HB.out.size))
      clear hs1
      go_wp2
      go_roundw
      case rel => exact ⟨i + 1, by omega, by go_num, by rw [show k + 2 * (i + 1) = k + 2 * i + 1 + 1 by omega]; go_num, HE.out⟩
      case measure => simp [RowKit.intOf]; omega
    · have hie : i = n := by omega
      subst hie
      go_wp2
      go_ret
      exact ⟨rfl, hbel⟩

set_option maxRecDepth 20000 in
set_option maxHeartbeats 1000000 in
theorem to_Event (x0 : Int) (x1 : ByteArray) (w : World) :
    Calls Tryz.prog 97 #[.agg #[.int .i64 x0, .string x1]] w fun e w' => e = .returned (.agg #[.int .i64 x0, .string x1]) ∧ Below w.heap.size w w' := by
  go_enter Tryz.func97, Tryz.ntmps97
  go_wp2
  refine bodyPost_ret (v := .agg #[.int .i64 x0, .string x1]) (by simp [results, Tryz.results97, go_sem]) rfl ⟨rfl, ?_⟩
  exact (((Below.refl _ _).alloc (Nat.le_refl _) _).alloc (by simp) _).alloc (by simp; omega) _

theorem infoEvent : (Tryz.prog.info? 124).map (fun i => (i.zero, i.size, i.bytes)) = some (some (.agg #[Value.int .i64 0, Value.string ⟨#[]⟩]), 2, 24) := by kernel_rfl

set_option maxRecDepth 20000 in
set_option maxHeartbeats 2000000 in
theorem to_Events (es : List EventD) (hn : es.length ≤ 1048576) (a : Value) (w : World) (ha : FArg encEvent 2 w a es) :
    Calls Tryz.prog 39 #[a] w fun e w' => e = .returned (.slice (some ⟨w.heap.size, 0, none⟩) es.length es.length) ∧ Below w.heap.size w w' ∧ w'.ownsRow w.heap.size 124 2 (.slice (some ⟨w.heap.size, 0, none⟩) es.length es.length) es.length (flat encEvent es) := by
  obtain ⟨p, c, rfl, hp⟩ := ha
  have HP := hid hp
  clear hp
  obtain ⟨i0, hi0, hz0, hz1, hz2⟩ := info_parts infoEvent
  obtain ⟨wm, hrun, hown, hgr⟩ := run_make_full (P := Tryz.prog) w w.heap.size 47 124 i0 _ 2 Tryz.underlying47 hi0 hz0 hz1 .i64 .i64 es.length (by rw [hz2]; omega) (by unfold maxLen; omega) (Nat.le_refl _)
  have hcells : (madeCells (Value.agg #[Value.int .i64 0, Value.string ⟨#[]⟩]).cells (es.length * 2)).toList = flat encEvent (fill zEvent es 0) := by
    rw [fill_zero]
    exact made_flat (by decide) encEvent_len zEvent es.length
  rw [hcells] at hown
  have hbm : Below w.heap.size w wm := ⟨hgr.os, hgr.tape, hgr.output, hgr.size, fun k hk => hgr.block k hk (by simp)⟩
  have HB := hid hbm
  have HO := hid hown
  have hzm := hgr.size
  clear hown hcells hgr hi0 hz0 hz1 hz2 hbm
  go_enter Tryz.func39, Tryz.ntmps39
  go_wp2
  go_loopw [4] (fun iv wr => ∃ i : Nat, i ≤ es.length ∧ iv = .int .i64 i ∧ Below w.heap.size w wr ∧ wr.ownsRow w.heap.size 124 2 (.slice (some ⟨w.heap.size, 0, none⟩) es.length es.length) es.length (flat encEvent (fill zEvent es i))) (fun iv _ => es.length - (RowKit.intOf iv).toNat)
  case atStart => exact ⟨0, Nat.zero_le _, rfl, HB.out, HO.out⟩
  case round =>
    obtain ⟨i, hi, rfl, hbel, hown⟩ := hrel
    have HB2 := hid hbel
    have HO2 := hid hown
    by_cases hlt : i < es.length
    · obtain ⟨ad, rfl, hbl, hc⟩ := HP.out i hlt
      have c0 : wr.cell? (ad.add (i * 2)) = some (.int .i64 es[i].x0) := by
        rw [show ad.add (i * 2) = ad.add (i * 2 + 0) from rfl]
        rw [hbel.cell (p := ad.add (i * 2 + 0)) (by rw [add_block]; exact hbl)]
        exact hc 0 (by decide)
      have c1 : wr.cell? ⟨(ad.add (i * 2)).block, (ad.add (i * 2)).off + 1, none⟩ = some (.string es[i].x1) := by
        rw [add_at, if_neg (by omega)]
        rw [hbel.cell (p := ad.add (i * 2 + 1)) (by rw [add_block]; exact hbl)]
        exact hc 1 (by decide)
      have HST := hid (fun (W : World) (ho : W.ownsRow w.heap.size 124 2 (.slice (some ⟨w.heap.size, 0, none⟩) es.length es.length) es.length (flat encEvent (fill zEvent es i))) => (show (((W.setCell ⟨w.heap.size, i * 2, none⟩ (.int .i64 es[i].x0)).setCell ⟨w.heap.size, i * 2 + 1, none⟩ (.string es[i].x1))).ownsRow w.heap.size 124 2 (.slice (some ⟨w.heap.size, 0, none⟩) es.length es.length) es.length (flat encEvent (fill zEvent es (i + 1))) from by
        have h2 := ((ho.stored (i * 2) (.int .i64 es[i].x0)).1.stored (i * 2 + 1) (.string es[i].x1)).1
        rw [← fill_set zEvent es i hlt, ← setMany_flat encEvent_len (fill zEvent es i) i (by rw [fill_len _ _ _ hi]; exact hlt)]
        exact h2))
      have HCELL := hid (fun (W : World) (ho : W.ownsRow w.heap.size 124 2 (.slice (some ⟨w.heap.size, 0, none⟩) es.length es.length) es.length (flat encEvent (fill zEvent es i))) (j : Nat) (hj : j < es.length * 2) => own_some ho j hj)
      have CT := hid (fun (W : World) => to_Event es[i].x0 es[i].x1 W)
      clear hbel hown hc hrun
      generalize es[i] = ei at *
      obtain ⟨x0, x1⟩ := ei
      go_wp2_with (go_at_call 97; refine (CT.out _).mono ?_; rintro e w5 ⟨rfl, hb5⟩; refine Hid.out ?_)
      refine hid ?_
      have HO5 := hid (own_below HO2.out hb5)
      have HB5 := hid (HB2.out.trans (hb5.mono HB2.out.size))
      obtain ⟨u0, a0⟩ := HCELL.out w5 HO5.out (i * 2) (by omega)
      have f0 := HO5.out.frozenAt (i * 2)
      obtain ⟨u1, a1⟩ := HCELL.out w5 HO5.out (i * 2 + 1) (by omega)
      have f1 := HO5.out.frozenAt (i * 2 + 1)
      have HS5 := hid (HST.out w5 HO5.out)
      clear hb5
      go_wp2
      go_roundw
      case rel => exact ⟨i + 1, by omega, by go_num, ((HB5.out.setCell (p := ⟨w.heap.size, i * 2, none⟩) (Nat.le_refl _) _).setCell (p := ⟨w.heap.size, i * 2 + 1, none⟩) (Nat.le_refl _) _), HS5.out⟩
      case measure => simp [RowKit.intOf]; omega
    · have hie : i = es.length := by omega
      subst hie
      clear hbel hown hrun
      go_wp2
      go_ret
      exact ⟨rfl, HB2.out, by have := HO2.out; rw [fill_all] at this; exact this⟩

set_option maxHeartbeats 1000000 in
theorem sz_Event (x0 : Int) (x1 : ByteArray) (h1 : x1.size ≤ 9223372036854775807) (k : Int) (hk0 : 0 ≤ k) (hk1 : k ≤ 1048576) (w : World) :
    Calls Tryz.prog 84 #[.agg #[.int .i64 x0, .string x1], .int .i64 k] w fun e w' => (∃ r : Int, e = .returned (.int .i64 r) ∧ (r < 0 ∨ 0 ≤ r ∧ r + ((szEventN ⟨x0, x1⟩ : Nat) : Int) = k)) ∧ Below w.heap.size w w' := by
  by_cases g1 : k - (x1.size : Int) < 0
  · go_enter Tryz.func84, Tryz.ntmps84
    go_wp2
    go_ret
    exact ⟨⟨-1, rfl, Or.inl (by omega)⟩, (Below.refl _ _).alloc (Nat.le_refl _) _⟩
  · skip
    go_enter Tryz.func84, Tryz.ntmps84
    go_wp2
    go_ret
    exact ⟨⟨_, rfl, Or.inr ⟨by omega, by simp only [szEventN]; omega⟩⟩, (Below.refl _ _).alloc (Nat.le_refl _) _⟩

set_option maxRecDepth 20000 in
set_option maxHeartbeats 2000000 in
theorem sz_Events (es : List EventD) (hs : ∀ e ∈ es, tameEvent e) (hm : es.length ≤ maxLen) (k : Nat) (hk : k ≤ 1048576) (a : Value) (w : World) (ha : FArg encEvent 2 w a es) :
    Calls Tryz.prog 30 #[a, .int .i64 k] w fun e w' => (∃ r : Int, e = .returned (.int .i64 r) ∧ (r < 0 ∨ 0 ≤ r ∧ r + ((es.length + used szEventN es : Nat) : Int) = (k : Int))) ∧ Below w.heap.size w w' := by
  obtain ⟨p, c, rfl, hp⟩ := ha
  have HP := hid hp
  have HS := hid hs
  unfold maxLen at hm
  clear hp hs
  by_cases hl : es.length ≤ k
  · go_enter Tryz.func30, Tryz.ntmps30
    go_wp2
    go_loopw [1, 5] (fun lv iv wr => ∃ i : Nat, ∃ r : Int, i ≤ es.length ∧ iv = .int .i64 i ∧ lv = .int .i64 r ∧ 0 ≤ r ∧ r ≤ 1048576 ∧ Below w.heap.size w wr ∧ Hid (r = (k : Int) - (es.length : Int) - (used szEventN (es.take i) : Int))) (fun _ iv _ => es.length - (RowKit.intOf iv).toNat)
    case atStart => exact ⟨0, _, Nat.zero_le _, rfl, rfl, by omega, by omega, Below.refl _ _, hid (by simp [used])⟩
    case round =>
      obtain ⟨i, r, hi, rfl, rfl, hr0, hr1, hbel, HR⟩ := hrel
      have HB := hid hbel
      by_cases hlt : i < es.length
      · obtain ⟨ad, rfl, hbl, hc⟩ := HP.out i hlt
        have c0 : wr.cell? (ad.add (i * 2)) = some (.int .i64 es[i].x0) := by
          rw [show ad.add (i * 2) = ad.add (i * 2 + 0) from rfl]
          rw [hbel.cell (p := ad.add (i * 2 + 0)) (by rw [add_block]; exact hbl)]
          exact hc 0 (by decide)
        have c1 : wr.cell? ⟨(ad.add (i * 2)).block, (ad.add (i * 2)).off + 1, none⟩ = some (.string es[i].x1) := by
          rw [add_at, if_neg (by omega)]
          rw [hbel.cell (p := ad.add (i * 2 + 1)) (by rw [add_block]; exact hbl)]
          exact hc 1 (by decide)
        have hx := HS.out es[i] (List.getElem_mem hlt)
        unfold tameEvent at hx
        have HTK := hid (used_take szEventN es i hlt)
        clear hbel hc
        generalize es[i] = ei at *
        obtain ⟨x0, x1⟩ := ei
        have CS := hid (fun (W : World) => sz_Event x0 x1 hx.1 r hr0 hr1 W)
        clear hx
        go_wp2_with (go_at_call 84; refine (CS.out _).mono ?_; rintro e w5 ⟨⟨r2, rfl, hr2⟩, hb5⟩; refine Hid.out ?_)
        refine hid ?_
        have HB5 := hid (HB.out.trans (hb5.mono HB.out.size))
        clear hb5 c0 c1
        rcases hr2 with hr2 | ⟨hr2, hr3⟩
        · go_wp2
          go_ret
          exact ⟨⟨-1, rfl, Or.inl (by omega)⟩, HB5.out⟩
        · have hr4 : r2 ≤ 1048576 := by omega
          have hr5 : ¬ r2 < 0 := by omega
          have HR3 := hid hr3
          clear hr3
          go_wp2
          go_roundw
          case rel => exact ⟨i + 1, _, by omega, by go_num, rfl, by omega, by omega, HB5.out, hid (by have := HR.out; have := HR3.out; rw [HTK.out]; omega)⟩
          case measure => simp [RowKit.intOf]; omega
      · have hie : i = es.length := by omega
        subst hie
        clear hbel
        go_wp2
        go_ret
        refine ⟨⟨r, rfl, Or.inr ⟨hr0, ?_⟩⟩, HB.out⟩
        have := HR.out
        rw [List.take_of_length_le (Nat.le_refl _)] at this
        omega
  · go_enter Tryz.func30, Tryz.ntmps30
    go_wp2
    go_ret
    exact ⟨⟨-1, rfl, Or.inl (by omega)⟩, Below.refl _ _⟩

end Go.Proofs.YtnkaabgjfdbdoaaGreatDoor
