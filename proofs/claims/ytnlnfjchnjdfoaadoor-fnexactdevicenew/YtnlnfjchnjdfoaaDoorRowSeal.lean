/- The helpers of the laws on Seals: their size, a copy, two held against each other, marks. Written by a program of ours out of the fields. -/
import Derived.Test.YtnlnfjchnjdfoaaDoorMarks
import Derived.Test.YtnlnfjchnjdfoaaDoorFlatRow
import Derived.Deep.RegionHeld3
namespace Go.Proofs.YtnlnfjchnjdfoaaDoor
open Go.RowKit
open Go.Lib (hid)

structure SealD where
  x0 : Int
  x1 : Int
  x2 : ByteArray
  x3 : ByteArray

def encSeal (e : SealD) : List Value := [.int .i64 e.x0, .int .i64 e.x1, .string e.x2, .string e.x3]

theorem encSeal_len (e : SealD) : (encSeal e).length = 4 := rfl

theorem encSeal_one (e : SealD) : ∀ v ∈ encSeal e, v.oneCell' = true := by
  intro v hv
  simp only [encSeal, List.mem_cons, List.not_mem_nil, or_false] at hv
  rcases hv with rfl | rfl | rfl | rfl <;> rfl

def zSeal : SealD := ⟨0, 0, ⟨#[]⟩, ⟨#[]⟩⟩

def szSealN (e : SealD) : Nat := e.x2.size + e.x3.size

/-- Each text is one that can be, each number one of 64 bits. -/
def tameSeal (e : SealD) : Prop := e.x2.size ≤ 9223372036854775807 ∧ e.x3.size ≤ 9223372036854775807 ∧ (-9223372036854775808 ≤ e.x0 ∧ e.x0 ≤ 9223372036854775807) ∧ (-9223372036854775808 ≤ e.x1 ∧ e.x1 ≤ 9223372036854775807)

def mkSeal (k i : Nat) : SealD := ⟨((k + 4 * i + 0 : Nat) : Int), ((k + 4 * i + 1 : Nat) : Int), ⟨(mtext (k + 4 * i + 2)).toArray⟩, ⟨(mtext (k + 4 * i + 3)).toArray⟩⟩

def marksSeal (k n : Nat) : List SealD := (List.range n).map (mkSeal k)

theorem marksSeal_len (k n : Nat) : (marksSeal k n).length = n := by simp [marksSeal]

theorem marksSeal_at (k n i : Nat) (h : i < (marksSeal k n).length) : (marksSeal k n)[i] = mkSeal k i := by simp [marksSeal]

set_option maxHeartbeats 1000000 in
theorem eq_Seal (x0 : Int) (x1 : Int) (x2 : ByteArray) (x3 : ByteArray) (w : World) :
    Calls Tryd.prog 131 #[.agg #[.int .i64 x0, .int .i64 x1, .string x2, .string x3], .agg #[.int .i64 x0, .int .i64 x1, .string x2, .string x3]] w fun e w' => e = .returned (.bool true) ∧ Below w.heap.size w w' := by
  have hy2 : (x2.toList == x2.toList) = true := by simp
  have hn2 : (x2.toList != x2.toList) = false := by simp
  have hy3 : (x3.toList == x3.toList) = true := by simp
  have hn3 : (x3.toList != x3.toList) = false := by simp
  go_enter Tryd.func131, Tryd.ntmps131
  go_wp2
  go_ret
  exact ⟨rfl, ((Below.refl _ _).alloc (Nat.le_refl _) _).alloc (by simp) _⟩

set_option maxRecDepth 20000 in
set_option maxHeartbeats 2000000 in
theorem eq_Seals (es : List SealD) (hn : es.length ≤ 100000000) (a b : Value) (w : World) (ha : FRow encSeal 4 w a es) (hb : FRow encSeal 4 w b es) :
    Calls Tryd.prog 130 #[a, b] w fun e w' => e = .returned (.bool true) ∧ Below w.heap.size w w' := by
  obtain ⟨p, c, rfl, _, hp⟩ := ha
  obtain ⟨q, e, rfl, _, hq⟩ := hb
  have HP := hid hp
  have HQ := hid hq
  clear hp hq
  go_enter Tryd.func130, Tryd.ntmps130
  go_wp2
  go_loopw [5] (fun iv wr => ∃ i : Nat, i ≤ es.length ∧ iv = .int .i64 i ∧ Below w.heap.size w wr) (fun iv _ => es.length - (RowKit.intOf iv).toNat)
  case atStart => exact ⟨0, Nat.zero_le _, rfl, Below.refl _ _⟩
  case round =>
    obtain ⟨i, hi, rfl, hbel⟩ := hrel
    by_cases hlt : i < es.length
    · have hne : es ≠ [] := fun h => by rw [h] at hlt; cases hlt
      obtain ⟨g, o, rfl, hg, hc⟩ := HP.out hne
      obtain ⟨g2, o2, rfl, hg2, hc2⟩ := HQ.out hne
      have b1 : (0 : Int) ≤ (i : Int) := by omega
      have b2 : (i : Int) < (es.length : Int) := by omega
      have hgw : g < wr.heap.size := Nat.lt_of_lt_of_le hg hbel.size
      have hg2w : g2 < wr.heap.size := Nat.lt_of_lt_of_le hg2 hbel.size
      have k0 : ∀ W : World, Below wr.heap.size wr W → W.cell? ⟨g, o + i * 4, none⟩ = some (.int .i64 es[i].x0) := fun W hW => (hW.cell (p := ⟨g, o + i * 4, none⟩) hgw).trans ((hbel.cell (p := ⟨g, o + i * 4, none⟩) hg).trans (hc i hlt 0 (by decide)))
      have k1 : ∀ W : World, Below wr.heap.size wr W → W.cell? ⟨g, o + i * 4 + 1, none⟩ = some (.int .i64 es[i].x1) := fun W hW => (hW.cell (p := ⟨g, o + i * 4 + 1, none⟩) hgw).trans ((hbel.cell (p := ⟨g, o + i * 4 + 1, none⟩) hg).trans (hc i hlt 1 (by decide)))
      have k2 : ∀ W : World, Below wr.heap.size wr W → W.cell? ⟨g, o + i * 4 + 2, none⟩ = some (.string es[i].x2) := fun W hW => (hW.cell (p := ⟨g, o + i * 4 + 2, none⟩) hgw).trans ((hbel.cell (p := ⟨g, o + i * 4 + 2, none⟩) hg).trans (hc i hlt 2 (by decide)))
      have k3 : ∀ W : World, Below wr.heap.size wr W → W.cell? ⟨g, o + i * 4 + 3, none⟩ = some (.string es[i].x3) := fun W hW => (hW.cell (p := ⟨g, o + i * 4 + 3, none⟩) hgw).trans ((hbel.cell (p := ⟨g, o + i * 4 + 3, none⟩) hg).trans (hc i hlt 3 (by decide)))
      have l0 : ∀ W : World, Below wr.heap.size wr W → W.cell? ⟨g2, o2 + i * 4, none⟩ = some (.int .i64 es[i].x0) := fun W hW => (hW.cell (p := ⟨g2, o2 + i * 4, none⟩) hg2w).trans ((hbel.cell (p := ⟨g2, o2 + i * 4, none⟩) hg2).trans (hc2 i hlt 0 (by decide)))
      have l1 : ∀ W : World, Below wr.heap.size wr W → W.cell? ⟨g2, o2 + i * 4 + 1, none⟩ = some (.int .i64 es[i].x1) := fun W hW => (hW.cell (p := ⟨g2, o2 + i * 4 + 1, none⟩) hg2w).trans ((hbel.cell (p := ⟨g2, o2 + i * 4 + 1, none⟩) hg2).trans (hc2 i hlt 1 (by decide)))
      have l2 : ∀ W : World, Below wr.heap.size wr W → W.cell? ⟨g2, o2 + i * 4 + 2, none⟩ = some (.string es[i].x2) := fun W hW => (hW.cell (p := ⟨g2, o2 + i * 4 + 2, none⟩) hg2w).trans ((hbel.cell (p := ⟨g2, o2 + i * 4 + 2, none⟩) hg2).trans (hc2 i hlt 2 (by decide)))
      have l3 : ∀ W : World, Below wr.heap.size wr W → W.cell? ⟨g2, o2 + i * 4 + 3, none⟩ = some (.string es[i].x3) := fun W hW => (hW.cell (p := ⟨g2, o2 + i * 4 + 3, none⟩) hg2w).trans ((hbel.cell (p := ⟨g2, o2 + i * 4 + 3, none⟩) hg2).trans (hc2 i hlt 3 (by decide)))
      clear hc hc2
      have HB := hid hbel
      have CE := hid (fun (W : World) => eq_Seal es[i].x0 es[i].x1 es[i].x2 es[i].x3 W)
      clear hbel
      generalize es[i] = ei at *
      obtain ⟨x0, x1, x2, x3⟩ := ei
      go_wp2
      go_region_held3 (fun w' => Below wr.heap.size wr w') (first | with_reducible assumption | exact Below.drew (Below.refl _ _) | exact below_hop (by assumption) (by simp) (by assumption)) ((go_at_call 131; refine (CE.out _).mono ?_; rintro e w5 ⟨rfl, hb5⟩))
      rename_i hS
      have HS := hid (HB.out.trans (hS.mono HB.out.size))
      clear hS hb5
      go_wp2
      go_roundw
      case rel => exact ⟨i + 1, by omega, by go_num, HS.out⟩
      case measure => simp [RowKit.intOf]; omega
    · have hie : i = es.length := by omega
      subst hie
      go_wp2
      go_ret
      exact ⟨rfl, hbel⟩

set_option maxRecDepth 20000 in
set_option maxHeartbeats 2000000 in
theorem mark_Seals (es : List SealD) (k : Nat) (h0 : 0 < k) (hn : k + 4 * es.length ≤ 1000000000) (base : Nat) (a : Value) (w : World) (ha : w.ownsRow base 66 4 a es.length (flat encSeal es)) :
    Calls Tryd.prog 133 #[a, .int .i64 k] w fun e w' => e = .returned (.int .i64 ((k + 4 * es.length : Nat) : Int)) ∧ w.grownBy w' a.ownBlock ∧ w'.ownsRow base 66 4 a es.length (flat encSeal (marksSeal k es.length)) := by
  rcases ha.2 with ⟨rfl, hz⟩ | ⟨g, c, _, rfl, _⟩
  · have hes : es = [] := List.eq_nil_of_length_eq_zero hz
    subst hes
    have HA := hid ha
    clear ha
    go_enter Tryd.func133, Tryd.ntmps133
    go_wp2
    go_loopw [1, 5] (fun kv iv wr => iv = .int .i64 0 ∧ kv = .int .i64 k ∧ wr = w) (fun _ iv _ => 0)
    case atStart => exact ⟨rfl, rfl, rfl⟩
    case round =>
      obtain ⟨rfl, rfl, rfl⟩ := hrel
      go_wp2
      go_ret
      exact ⟨rfl, grown_refl _ _, HA.out⟩
  · have HA := hid ha
    clear ha
    go_enter Tryd.func133, Tryd.ntmps133
    go_wp2
    go_loopw [1, 5] (fun kv iv wr => ∃ i : Nat, i ≤ es.length ∧ iv = .int .i64 i ∧ kv = .int .i64 ((k + 4 * i : Nat) : Int) ∧ w.grownBy wr (some g) ∧ wr.ownsRow base 66 4 (.slice (some ⟨g, 0, none⟩) es.length c) es.length (flat encSeal (mix (mkSeal k) es i))) (fun _ iv _ => es.length - (RowKit.intOf iv).toNat)
    case atStart => exact ⟨0, Nat.zero_le _, rfl, rfl, grown_refl _ _, by rw [mix_zero]; exact HA.out⟩
    case round =>
      obtain ⟨i, hi, rfl, rfl, hgr, hown⟩ := hrel
      have HG := hid hgr
      clear hgr
      by_cases hlt : i < es.length
      · have b1 : (0 : Int) ≤ (i : Int) := by omega
        have b2 : (i : Int) < (es.length : Int) := by omega
        obtain ⟨u0, a0⟩ := own_some hown (i * 4) (by omega)
        have f0 := hown.frozenAt (i * 4)
        obtain ⟨u1, a1⟩ := own_some hown (i * 4 + 1) (by omega)
        have f1 := hown.frozenAt (i * 4 + 1)
        obtain ⟨u2, a2⟩ := own_some hown (i * 4 + 2) (by omega)
        have f2 := hown.frozenAt (i * 4 + 2)
        obtain ⟨u3, a3⟩ := own_some hown (i * 4 + 3) (by omega)
        have f3 := hown.frozenAt (i * 4 + 3)
        have HO0 := hid hown
        clear hown
        go_wp2_with (go_at_call 60; refine (mark_text (k + 4 * i + 2) _ (by omega) (by omega) (by omega) _).mono ?_; rintro e y1 ⟨rfl, hy1⟩; refine Hid.out ?_)
        refine hid ?_
        have HO1 := hid (own_below ((HO0.out.stored (i * 4) (.int .i64 ((k + 4 * i : Nat) : Int))).1.stored (i * 4 + 1) (.int .i64 ((k + 4 * i + 1 : Nat) : Int))).1 hy1)
        have HG1 := hid (grown_trans (grown_trans (grown_trans HG.out (HO0.out.stored (i * 4) (.int .i64 ((k + 4 * i : Nat) : Int))).2) ((HO0.out.stored (i * 4) (.int .i64 ((k + 4 * i : Nat) : Int))).1.stored (i * 4 + 1) (.int .i64 ((k + 4 * i + 1 : Nat) : Int))).2) (grown_below hy1))
        clear hy1 a0 a1 a2 a3 f0 f1 f2 f3
        obtain ⟨u2_1, a2_1⟩ := own_some HO1.out (i * 4 + 2) (by omega)
        have f2_1 := HO1.out.frozenAt (i * 4 + 2)
        obtain ⟨u3_1, a3_1⟩ := own_some HO1.out (i * 4 + 3) (by omega)
        have f3_1 := HO1.out.frozenAt (i * 4 + 3)
        go_wp2_with (go_at_call 60; refine (mark_text (k + 4 * i + 3) _ (by omega) (by omega) (by omega) _).mono ?_; rintro e y2 ⟨rfl, hy2⟩; refine Hid.out ?_)
        refine hid ?_
        have HO2 := hid (own_below (HO1.out.stored (i * 4 + 2) (.string ⟨(mtext (k + 4 * i + 2)).toArray⟩)).1 hy2)
        have HG2 := hid (grown_trans (grown_trans HG1.out (HO1.out.stored (i * 4 + 2) (.string ⟨(mtext (k + 4 * i + 2)).toArray⟩)).2) (grown_below hy2))
        clear hy2 a2_1 a3_1 f2_1 f3_1
        obtain ⟨u3_2, a3_2⟩ := own_some HO2.out (i * 4 + 3) (by omega)
        have f3_2 := HO2.out.frozenAt (i * 4 + 3)
        have HON := hid (HO2.out.stored (i * 4 + 3) (.string ⟨(mtext (k + 4 * i + 3)).toArray⟩)).1
        have HGN := hid (grown_trans HG2.out (HO2.out.stored (i * 4 + 3) (.string ⟨(mtext (k + 4 * i + 3)).toArray⟩)).2)
        have HSET := hid (show ((((flat encSeal (mix (mkSeal k) es i)).set (i * 4) (.int .i64 ((k + 4 * i : Nat) : Int))).set (i * 4 + 1) (.int .i64 ((k + 4 * i + 1 : Nat) : Int))).set (i * 4 + 2) (.string ⟨(mtext (k + 4 * i + 2)).toArray⟩)).set (i * 4 + 3) (.string ⟨(mtext (k + 4 * i + 3)).toArray⟩) = flat encSeal (mix (mkSeal k) es (i + 1)) from by
          rw [← mix_set (mkSeal k) es i hlt, ← setMany_flat encSeal_len (mix (mkSeal k) es i) i (by rw [mix_len _ _ _ hi]; exact hlt)]
          rfl)
        go_wp2
        go_roundw
        case rel => exact ⟨i + 1, by omega, by go_num, by rw [show k + 4 * (i + 1) = k + 4 * i + 1 + 1 + 1 + 1 by omega]; go_num, HGN.out, by rw [← HSET.out]; exact HON.out⟩
        case measure => simp [RowKit.intOf]; omega
      · have hie : i = es.length := by omega
        subst hie
        have HO := hid hown
        clear hown
        go_wp2
        go_ret
        exact ⟨rfl, HG.out, by have := HO.out; rw [mix_all _ _ _ rfl] at this; exact this⟩

set_option maxRecDepth 20000 in
set_option maxHeartbeats 2000000 in
theorem held_Seals (k n : Nat) (h0 : 0 < k) (hn : k + 4 * n ≤ 1000000000) (a : Value) (w : World) (ha : FRow encSeal 4 w a (marksSeal k n)) :
    Calls Tryd.prog 134 #[a, .int .i64 k] w fun e w' => e = .returned (.int .i64 ((k + 4 * n : Nat) : Int)) ∧ Below w.heap.size w w' := by
  obtain ⟨p, c, rfl, _, hp⟩ := ha
  rw [marksSeal_len]
  have HP := hid hp
  clear hp
  go_enter Tryd.func134, Tryd.ntmps134
  go_wp2
  go_loopw [1, 5] (fun kv iv wr => ∃ i : Nat, i ≤ n ∧ iv = .int .i64 i ∧ kv = .int .i64 ((k + 4 * i : Nat) : Int) ∧ Below w.heap.size w wr) (fun _ iv _ => n - (RowKit.intOf iv).toNat)
  case atStart => exact ⟨0, Nat.zero_le _, rfl, rfl, Below.refl _ _⟩
  case round =>
    obtain ⟨i, hi, rfl, rfl, hbel⟩ := hrel
    by_cases hlt : i < n
    · have hne : marksSeal k n ≠ [] := fun h => by
        have := marksSeal_len k n
        rw [h] at this
        simp at this
        omega
      obtain ⟨g, o, rfl, hg, hc⟩ := HP.out hne
      have b1 : (0 : Int) ≤ (i : Int) := by omega
      have b2 : (i : Int) < (n : Int) := by omega
      have hgw : g < wr.heap.size := Nat.lt_of_lt_of_le hg hbel.size
      have k0 : ∀ W : World, Below wr.heap.size wr W → W.cell? ⟨g, o + i * 4, none⟩ = some (.int .i64 ((k + 4 * i : Nat) : Int)) := fun W hW => (hW.cell (p := ⟨g, o + i * 4, none⟩) hgw).trans ((hbel.cell (p := ⟨g, o + i * 4, none⟩) hg).trans ((hc i (by rw [marksSeal_len]; exact hlt) 0 (by decide)).trans (by rw [marksSeal_at]; rfl)))
      have k1 : ∀ W : World, Below wr.heap.size wr W → W.cell? ⟨g, o + i * 4 + 1, none⟩ = some (.int .i64 ((k + 4 * i + 1 : Nat) : Int)) := fun W hW => (hW.cell (p := ⟨g, o + i * 4 + 1, none⟩) hgw).trans ((hbel.cell (p := ⟨g, o + i * 4 + 1, none⟩) hg).trans ((hc i (by rw [marksSeal_len]; exact hlt) 1 (by decide)).trans (by rw [marksSeal_at]; rfl)))
      have k2 : ∀ W : World, Below wr.heap.size wr W → W.cell? ⟨g, o + i * 4 + 2, none⟩ = some (.string ⟨(mtext (k + 4 * i + 2)).toArray⟩) := fun W hW => (hW.cell (p := ⟨g, o + i * 4 + 2, none⟩) hgw).trans ((hbel.cell (p := ⟨g, o + i * 4 + 2, none⟩) hg).trans ((hc i (by rw [marksSeal_len]; exact hlt) 2 (by decide)).trans (by rw [marksSeal_at]; rfl)))
      have k3 : ∀ W : World, Below wr.heap.size wr W → W.cell? ⟨g, o + i * 4 + 3, none⟩ = some (.string ⟨(mtext (k + 4 * i + 3)).toArray⟩) := fun W hW => (hW.cell (p := ⟨g, o + i * 4 + 3, none⟩) hgw).trans ((hbel.cell (p := ⟨g, o + i * 4 + 3, none⟩) hg).trans ((hc i (by rw [marksSeal_len]; exact hlt) 3 (by decide)).trans (by rw [marksSeal_at]; rfl)))
      have HB := hid hbel
      clear hbel hc
      have a0 := k0 wr (Below.refl _ _)
      have a1 := k1 wr (Below.refl _ _)
      have a2 := k2 wr (Below.refl _ _)
      go_wp2
      go_region_held3 (fun w' => Below wr.heap.size wr w') (first | with_reducible assumption | exact Below.drew (Below.refl _ _) | exact Below.drew (by assumption) | exact below_hop (by assumption) (by simp) (by assumption)) ((go_at_call 60; refine (mark_text (k + 4 * i + 2) _ (by omega) (by omega) (by omega) _).mono ?_; rintro e y1 ⟨rfl, hy1⟩))
      rename_i hS1
      have hs1 := hS1
      clear hy1 hS1 a0 a1 a2
      have a3 := k3 _ hs1
      go_wp2
      go_region_held3 (fun w' => Below wr.heap.size wr w') (first | with_reducible assumption | exact Below.drew (Below.refl _ _) | exact Below.drew (by assumption) | exact below_hop (by assumption) (by simp) (by assumption)) ((go_at_call 60; refine (mark_text (k + 4 * i + 3) _ (by omega) (by omega) (by omega) _).mono ?_; rintro e y2 ⟨rfl, hy2⟩))
      rename_i hS2
      have hs2 := hS2
      clear hy2 hS2 hs1 a3
      have HE := hid (HB.out.trans (hs2.mono HB.out.size))
      clear hs2
      go_wp2
      go_roundw
      case rel => exact ⟨i + 1, by omega, by go_num, by rw [show k + 4 * (i + 1) = k + 4 * i + 1 + 1 + 1 + 1 by omega]; go_num, HE.out⟩
      case measure => simp [RowKit.intOf]; omega
    · have hie : i = n := by omega
      subst hie
      go_wp2
      go_ret
      exact ⟨rfl, hbel⟩

end Go.Proofs.YtnlnfjchnjdfoaaDoor
