/- The helpers of the laws on Certs: their size, a copy, two held against each other, marks. Written by a program of ours out of the fields. -/
import Derived.Test.YtponjghppnpnhaaDoorMarks
import Derived.Test.YtponjghppnpnhaaDoorFlatRow
import Derived.Deep.RegionHeld3
namespace Go.Proofs.YtponjghppnpnhaaDoor
open Go.RowKit
open Go.Lib (hid)

structure CertD where
  x0 : ByteArray
  x1 : ByteArray
  x2 : Int
  x3 : Int
  x4 : ByteArray

def encCert (e : CertD) : List Value := [.string e.x0, .string e.x1, .int .i64 e.x2, .int .i64 e.x3, .string e.x4]

theorem encCert_len (e : CertD) : (encCert e).length = 5 := rfl

theorem encCert_one (e : CertD) : ∀ v ∈ encCert e, v.oneCell' = true := by
  intro v hv
  simp only [encCert, List.mem_cons, List.not_mem_nil, or_false] at hv
  rcases hv with rfl | rfl | rfl | rfl | rfl <;> rfl

def zCert : CertD := ⟨⟨#[]⟩, ⟨#[]⟩, 0, 0, ⟨#[]⟩⟩

def szCertN (e : CertD) : Nat := e.x0.size + e.x1.size + e.x4.size

/-- Each text is one that can be, each number one of 64 bits. -/
def tameCert (e : CertD) : Prop := e.x0.size ≤ 9223372036854775807 ∧ e.x1.size ≤ 9223372036854775807 ∧ e.x4.size ≤ 9223372036854775807 ∧ (-9223372036854775808 ≤ e.x2 ∧ e.x2 ≤ 9223372036854775807) ∧ (-9223372036854775808 ≤ e.x3 ∧ e.x3 ≤ 9223372036854775807)

def mkCert (k i : Nat) : CertD := ⟨⟨(mtext (k + 5 * i + 0)).toArray⟩, ⟨(mtext (k + 5 * i + 1)).toArray⟩, ((k + 5 * i + 2 : Nat) : Int), ((k + 5 * i + 3 : Nat) : Int), ⟨(mtext (k + 5 * i + 4)).toArray⟩⟩

def marksCert (k n : Nat) : List CertD := (List.range n).map (mkCert k)

theorem marksCert_len (k n : Nat) : (marksCert k n).length = n := by simp [marksCert]

theorem marksCert_at (k n i : Nat) (h : i < (marksCert k n).length) : (marksCert k n)[i] = mkCert k i := by simp [marksCert]

set_option maxHeartbeats 1000000 in
theorem eq_Cert (x0 : ByteArray) (x1 : ByteArray) (x2 : Int) (x3 : Int) (x4 : ByteArray) (w : World) :
    Calls Tryd.prog 67 #[.agg #[.string x0, .string x1, .int .i64 x2, .int .i64 x3, .string x4], .agg #[.string x0, .string x1, .int .i64 x2, .int .i64 x3, .string x4]] w fun e w' => e = .returned (.bool true) ∧ Below w.heap.size w w' := by
  have hy0 : (x0.toList == x0.toList) = true := by simp
  have hn0 : (x0.toList != x0.toList) = false := by simp
  have hy1 : (x1.toList == x1.toList) = true := by simp
  have hn1 : (x1.toList != x1.toList) = false := by simp
  have hy4 : (x4.toList == x4.toList) = true := by simp
  have hn4 : (x4.toList != x4.toList) = false := by simp
  go_enter Tryd.func67, Tryd.ntmps67
  go_wp2
  go_ret
  exact ⟨rfl, ((Below.refl _ _).alloc (Nat.le_refl _) _).alloc (by simp) _⟩

set_option maxRecDepth 20000 in
set_option maxHeartbeats 2000000 in
theorem eq_Certs (es : List CertD) (hn : es.length ≤ 100000000) (a b : Value) (w : World) (ha : FRow encCert 5 w a es) (hb : FRow encCert 5 w b es) :
    Calls Tryd.prog 25 #[a, b] w fun e w' => e = .returned (.bool true) ∧ Below w.heap.size w w' := by
  obtain ⟨p, c, rfl, _, hp⟩ := ha
  obtain ⟨q, e, rfl, _, hq⟩ := hb
  have HP := hid hp
  have HQ := hid hq
  clear hp hq
  go_enter Tryd.func25, Tryd.ntmps25
  go_wp2
  go_loopw [5] (fun iv wr => ∃ i : Nat, i ≤ es.length ∧ iv = .int .i64 i ∧ Below w.heap.size w wr) (fun iv _ => es.length - (RowKit.intOf iv).toNat)
  case atStart => exact ⟨0, Nat.zero_le _, rfl, Below.refl _ _⟩
  case round =>
    obtain ⟨i, hi, rfl, hbel⟩ := hrel
    by_cases hlt : i < es.length
    · have hne : es ≠ [] := fun h => by rw [h] at hlt; cases hlt
      obtain ⟨g, o, rfl, hg, hc⟩ := HP.out hne
      obtain ⟨g2, o2, rfl, hg2, hc2⟩ := HQ.out hne
      have b1 : (0 : Int) ≤ (i : Int) := by omega
      have b2 : (i : Int) < (es.length : Int) := by omega
      have hgw : g < wr.heap.size := Nat.lt_of_lt_of_le hg hbel.size
      have hg2w : g2 < wr.heap.size := Nat.lt_of_lt_of_le hg2 hbel.size
      have k0 : ∀ W : World, Below wr.heap.size wr W → W.cell? ⟨g, o + i * 5, none⟩ = some (.string es[i].x0) := fun W hW => (hW.cell (p := ⟨g, o + i * 5, none⟩) hgw).trans ((hbel.cell (p := ⟨g, o + i * 5, none⟩) hg).trans (hc i hlt 0 (by decide)))
      have k1 : ∀ W : World, Below wr.heap.size wr W → W.cell? ⟨g, o + i * 5 + 1, none⟩ = some (.string es[i].x1) := fun W hW => (hW.cell (p := ⟨g, o + i * 5 + 1, none⟩) hgw).trans ((hbel.cell (p := ⟨g, o + i * 5 + 1, none⟩) hg).trans (hc i hlt 1 (by decide)))
      have k2 : ∀ W : World, Below wr.heap.size wr W → W.cell? ⟨g, o + i * 5 + 2, none⟩ = some (.int .i64 es[i].x2) := fun W hW => (hW.cell (p := ⟨g, o + i * 5 + 2, none⟩) hgw).trans ((hbel.cell (p := ⟨g, o + i * 5 + 2, none⟩) hg).trans (hc i hlt 2 (by decide)))
      have k3 : ∀ W : World, Below wr.heap.size wr W → W.cell? ⟨g, o + i * 5 + 3, none⟩ = some (.int .i64 es[i].x3) := fun W hW => (hW.cell (p := ⟨g, o + i * 5 + 3, none⟩) hgw).trans ((hbel.cell (p := ⟨g, o + i * 5 + 3, none⟩) hg).trans (hc i hlt 3 (by decide)))
      have k4 : ∀ W : World, Below wr.heap.size wr W → W.cell? ⟨g, o + i * 5 + 4, none⟩ = some (.string es[i].x4) := fun W hW => (hW.cell (p := ⟨g, o + i * 5 + 4, none⟩) hgw).trans ((hbel.cell (p := ⟨g, o + i * 5 + 4, none⟩) hg).trans (hc i hlt 4 (by decide)))
      have l0 : ∀ W : World, Below wr.heap.size wr W → W.cell? ⟨g2, o2 + i * 5, none⟩ = some (.string es[i].x0) := fun W hW => (hW.cell (p := ⟨g2, o2 + i * 5, none⟩) hg2w).trans ((hbel.cell (p := ⟨g2, o2 + i * 5, none⟩) hg2).trans (hc2 i hlt 0 (by decide)))
      have l1 : ∀ W : World, Below wr.heap.size wr W → W.cell? ⟨g2, o2 + i * 5 + 1, none⟩ = some (.string es[i].x1) := fun W hW => (hW.cell (p := ⟨g2, o2 + i * 5 + 1, none⟩) hg2w).trans ((hbel.cell (p := ⟨g2, o2 + i * 5 + 1, none⟩) hg2).trans (hc2 i hlt 1 (by decide)))
      have l2 : ∀ W : World, Below wr.heap.size wr W → W.cell? ⟨g2, o2 + i * 5 + 2, none⟩ = some (.int .i64 es[i].x2) := fun W hW => (hW.cell (p := ⟨g2, o2 + i * 5 + 2, none⟩) hg2w).trans ((hbel.cell (p := ⟨g2, o2 + i * 5 + 2, none⟩) hg2).trans (hc2 i hlt 2 (by decide)))
      have l3 : ∀ W : World, Below wr.heap.size wr W → W.cell? ⟨g2, o2 + i * 5 + 3, none⟩ = some (.int .i64 es[i].x3) := fun W hW => (hW.cell (p := ⟨g2, o2 + i * 5 + 3, none⟩) hg2w).trans ((hbel.cell (p := ⟨g2, o2 + i * 5 + 3, none⟩) hg2).trans (hc2 i hlt 3 (by decide)))
      have l4 : ∀ W : World, Below wr.heap.size wr W → W.cell? ⟨g2, o2 + i * 5 + 4, none⟩ = some (.string es[i].x4) := fun W hW => (hW.cell (p := ⟨g2, o2 + i * 5 + 4, none⟩) hg2w).trans ((hbel.cell (p := ⟨g2, o2 + i * 5 + 4, none⟩) hg2).trans (hc2 i hlt 4 (by decide)))
      clear hc hc2
      have HB := hid hbel
      have CE := hid (fun (W : World) => eq_Cert es[i].x0 es[i].x1 es[i].x2 es[i].x3 es[i].x4 W)
      clear hbel
      generalize es[i] = ei at *
      obtain ⟨x0, x1, x2, x3, x4⟩ := ei
      go_wp2
      go_region_held3 (fun w' => Below wr.heap.size wr w') (first | with_reducible assumption | exact Below.drew (Below.refl _ _) | exact below_hop (by assumption) (by simp) (by assumption)) ((go_at_call 67; refine (CE.out _).mono ?_; rintro e w5 ⟨rfl, hb5⟩))
      rename_i hS
      have HS := hid (HB.out.trans (hS.mono HB.out.size))
      clear hS hb5
      go_wp2
      go_roundw
      case rel => exact ⟨i + 1, by omega, by go_num, HS.out⟩
      case measure => simp [RowKit.intOf]; omega
    · have hie : i = es.length := by omega
      subst hie
      go_wp2
      go_ret
      exact ⟨rfl, hbel⟩

set_option maxRecDepth 20000 in
set_option maxHeartbeats 1000000 in
theorem to_Cert (x0 : ByteArray) (x1 : ByteArray) (x2 : Int) (x3 : Int) (x4 : ByteArray) (w : World) :
    Calls Tryd.prog 19 #[.agg #[.string x0, .string x1, .int .i64 x2, .int .i64 x3, .string x4]] w fun e w' => e = .returned (.agg #[.string x0, .string x1, .int .i64 x2, .int .i64 x3, .string x4]) ∧ Below w.heap.size w w' := by
  go_enter Tryd.func19, Tryd.ntmps19
  go_wp2
  refine bodyPost_ret (v := .agg #[.string x0, .string x1, .int .i64 x2, .int .i64 x3, .string x4]) (by simp [results, Tryd.results19, go_sem]) rfl ⟨rfl, ?_⟩
  exact (((Below.refl _ _).alloc (Nat.le_refl _) _).alloc (by simp) _).alloc (by simp; omega) _

theorem infoCert : (Tryd.prog.info? 33).map (fun i => (i.zero, i.size, i.bytes)) = some (some (.agg #[Value.string ⟨#[]⟩, Value.string ⟨#[]⟩, Value.int .i64 0, Value.int .i64 0, Value.string ⟨#[]⟩]), 5, 64) := by kernel_rfl

set_option maxRecDepth 20000 in
set_option maxHeartbeats 2000000 in
theorem to_Certs (es : List CertD) (hn : es.length ≤ 1048576) (a : Value) (w : World) (ha : FArg encCert 5 w a es) :
    Calls Tryd.prog 23 #[a] w fun e w' => e = .returned (.slice (some ⟨w.heap.size, 0, none⟩) es.length es.length) ∧ Below w.heap.size w w' ∧ w'.ownsRow w.heap.size 33 5 (.slice (some ⟨w.heap.size, 0, none⟩) es.length es.length) es.length (flat encCert es) := by
  obtain ⟨p, c, rfl, hp⟩ := ha
  have HP := hid hp
  clear hp
  obtain ⟨i0, hi0, hz0, hz1, hz2⟩ := info_parts infoCert
  obtain ⟨wm, hrun, hown, hgr⟩ := run_make_full (P := Tryd.prog) w w.heap.size 40 33 i0 _ 5 Tryd.underlying40 hi0 hz0 hz1 .i64 .i64 es.length (by rw [hz2]; omega) (by unfold maxLen; omega) (Nat.le_refl _)
  have hcells : (madeCells (Value.agg #[Value.string ⟨#[]⟩, Value.string ⟨#[]⟩, Value.int .i64 0, Value.int .i64 0, Value.string ⟨#[]⟩]).cells (es.length * 5)).toList = flat encCert (fill zCert es 0) := by
    rw [fill_zero]
    exact made_flat (by decide) encCert_len zCert es.length
  rw [hcells] at hown
  have hbm : Below w.heap.size w wm := ⟨hgr.os, hgr.tape, hgr.output, hgr.size, fun k hk => hgr.block k hk (by simp)⟩
  have HB := hid hbm
  have HO := hid hown
  have hzm := hgr.size
  clear hown hcells hgr hi0 hz0 hz1 hz2 hbm
  go_enter Tryd.func23, Tryd.ntmps23
  go_wp2
  go_loopw [4] (fun iv wr => ∃ i : Nat, i ≤ es.length ∧ iv = .int .i64 i ∧ Below w.heap.size w wr ∧ wr.ownsRow w.heap.size 33 5 (.slice (some ⟨w.heap.size, 0, none⟩) es.length es.length) es.length (flat encCert (fill zCert es i))) (fun iv _ => es.length - (RowKit.intOf iv).toNat)
  case atStart => exact ⟨0, Nat.zero_le _, rfl, HB.out, HO.out⟩
  case round =>
    obtain ⟨i, hi, rfl, hbel, hown⟩ := hrel
    have HB2 := hid hbel
    have HO2 := hid hown
    by_cases hlt : i < es.length
    · obtain ⟨ad, rfl, hbl, hc⟩ := HP.out i hlt
      have c0 : wr.cell? (ad.add (i * 5)) = some (.string es[i].x0) := by
        rw [show ad.add (i * 5) = ad.add (i * 5 + 0) from rfl]
        rw [hbel.cell (p := ad.add (i * 5 + 0)) (by rw [add_block]; exact hbl)]
        exact hc 0 (by decide)
      have c1 : wr.cell? ⟨(ad.add (i * 5)).block, (ad.add (i * 5)).off + 1, none⟩ = some (.string es[i].x1) := by
        rw [add_at, if_neg (by omega)]
        rw [hbel.cell (p := ad.add (i * 5 + 1)) (by rw [add_block]; exact hbl)]
        exact hc 1 (by decide)
      have c2 : wr.cell? ⟨(ad.add (i * 5)).block, (ad.add (i * 5)).off + 2, none⟩ = some (.int .i64 es[i].x2) := by
        rw [add_at, if_neg (by omega)]
        rw [hbel.cell (p := ad.add (i * 5 + 2)) (by rw [add_block]; exact hbl)]
        exact hc 2 (by decide)
      have c3 : wr.cell? ⟨(ad.add (i * 5)).block, (ad.add (i * 5)).off + 3, none⟩ = some (.int .i64 es[i].x3) := by
        rw [add_at, if_neg (by omega)]
        rw [hbel.cell (p := ad.add (i * 5 + 3)) (by rw [add_block]; exact hbl)]
        exact hc 3 (by decide)
      have c4 : wr.cell? ⟨(ad.add (i * 5)).block, (ad.add (i * 5)).off + 4, none⟩ = some (.string es[i].x4) := by
        rw [add_at, if_neg (by omega)]
        rw [hbel.cell (p := ad.add (i * 5 + 4)) (by rw [add_block]; exact hbl)]
        exact hc 4 (by decide)
      have HST := hid (fun (W : World) (ho : W.ownsRow w.heap.size 33 5 (.slice (some ⟨w.heap.size, 0, none⟩) es.length es.length) es.length (flat encCert (fill zCert es i))) => (show ((((((W.setCell ⟨w.heap.size, i * 5, none⟩ (.string es[i].x0)).setCell ⟨w.heap.size, i * 5 + 1, none⟩ (.string es[i].x1)).setCell ⟨w.heap.size, i * 5 + 2, none⟩ (.int .i64 es[i].x2)).setCell ⟨w.heap.size, i * 5 + 3, none⟩ (.int .i64 es[i].x3)).setCell ⟨w.heap.size, i * 5 + 4, none⟩ (.string es[i].x4))).ownsRow w.heap.size 33 5 (.slice (some ⟨w.heap.size, 0, none⟩) es.length es.length) es.length (flat encCert (fill zCert es (i + 1))) from by
        have h2 := (((((ho.stored (i * 5) (.string es[i].x0)).1.stored (i * 5 + 1) (.string es[i].x1)).1.stored (i * 5 + 2) (.int .i64 es[i].x2)).1.stored (i * 5 + 3) (.int .i64 es[i].x3)).1.stored (i * 5 + 4) (.string es[i].x4)).1
        rw [← fill_set zCert es i hlt, ← setMany_flat encCert_len (fill zCert es i) i (by rw [fill_len _ _ _ hi]; exact hlt)]
        exact h2))
      have HCELL := hid (fun (W : World) (ho : W.ownsRow w.heap.size 33 5 (.slice (some ⟨w.heap.size, 0, none⟩) es.length es.length) es.length (flat encCert (fill zCert es i))) (j : Nat) (hj : j < es.length * 5) => own_some ho j hj)
      have CT := hid (fun (W : World) => to_Cert es[i].x0 es[i].x1 es[i].x2 es[i].x3 es[i].x4 W)
      clear hbel hown hc hrun
      generalize es[i] = ei at *
      obtain ⟨x0, x1, x2, x3, x4⟩ := ei
      go_wp2_with (go_at_call 19; refine (CT.out _).mono ?_; rintro e w5 ⟨rfl, hb5⟩; refine Hid.out ?_)
      refine hid ?_
      have HO5 := hid (own_below HO2.out hb5)
      have HB5 := hid (HB2.out.trans (hb5.mono HB2.out.size))
      obtain ⟨u0, a0⟩ := HCELL.out w5 HO5.out (i * 5) (by omega)
      have f0 := HO5.out.frozenAt (i * 5)
      obtain ⟨u1, a1⟩ := HCELL.out w5 HO5.out (i * 5 + 1) (by omega)
      have f1 := HO5.out.frozenAt (i * 5 + 1)
      obtain ⟨u2, a2⟩ := HCELL.out w5 HO5.out (i * 5 + 2) (by omega)
      have f2 := HO5.out.frozenAt (i * 5 + 2)
      obtain ⟨u3, a3⟩ := HCELL.out w5 HO5.out (i * 5 + 3) (by omega)
      have f3 := HO5.out.frozenAt (i * 5 + 3)
      obtain ⟨u4, a4⟩ := HCELL.out w5 HO5.out (i * 5 + 4) (by omega)
      have f4 := HO5.out.frozenAt (i * 5 + 4)
      have HS5 := hid (HST.out w5 HO5.out)
      clear hb5
      go_wp2
      go_roundw
      case rel => exact ⟨i + 1, by omega, by go_num, (((((HB5.out.setCell (p := ⟨w.heap.size, i * 5, none⟩) (Nat.le_refl _) _).setCell (p := ⟨w.heap.size, i * 5 + 1, none⟩) (Nat.le_refl _) _).setCell (p := ⟨w.heap.size, i * 5 + 2, none⟩) (Nat.le_refl _) _).setCell (p := ⟨w.heap.size, i * 5 + 3, none⟩) (Nat.le_refl _) _).setCell (p := ⟨w.heap.size, i * 5 + 4, none⟩) (Nat.le_refl _) _), HS5.out⟩
      case measure => simp [RowKit.intOf]; omega
    · have hie : i = es.length := by omega
      subst hie
      clear hbel hown hrun
      go_wp2
      go_ret
      exact ⟨rfl, HB2.out, by have := HO2.out; rw [fill_all] at this; exact this⟩

set_option maxHeartbeats 1000000 in
theorem sz_Cert (x0 : ByteArray) (x1 : ByteArray) (x2 : Int) (x3 : Int) (x4 : ByteArray) (h0 : x0.size ≤ 9223372036854775807) (h1 : x1.size ≤ 9223372036854775807) (h4 : x4.size ≤ 9223372036854775807) (k : Int) (hk0 : 0 ≤ k) (hk1 : k ≤ 1048576) (w : World) :
    Calls Tryd.prog 17 #[.agg #[.string x0, .string x1, .int .i64 x2, .int .i64 x3, .string x4], .int .i64 k] w fun e w' => (∃ r : Int, e = .returned (.int .i64 r) ∧ (r < 0 ∨ 0 ≤ r ∧ r + ((szCertN ⟨x0, x1, x2, x3, x4⟩ : Nat) : Int) = k)) ∧ Below w.heap.size w w' := by
  by_cases g0 : k - (x0.size : Int) < 0
  · go_enter Tryd.func17, Tryd.ntmps17
    go_wp2
    go_ret
    exact ⟨⟨-1, rfl, Or.inl (by omega)⟩, (Below.refl _ _).alloc (Nat.le_refl _) _⟩
  · skip
    by_cases g1 : k - (x0.size : Int) - (x1.size : Int) < 0
    · go_enter Tryd.func17, Tryd.ntmps17
      go_wp2
      go_ret
      exact ⟨⟨-1, rfl, Or.inl (by omega)⟩, (Below.refl _ _).alloc (Nat.le_refl _) _⟩
    · skip
      by_cases g4 : k - (x0.size : Int) - (x1.size : Int) - (x4.size : Int) < 0
      · go_enter Tryd.func17, Tryd.ntmps17
        go_wp2
        go_ret
        exact ⟨⟨-1, rfl, Or.inl (by omega)⟩, (Below.refl _ _).alloc (Nat.le_refl _) _⟩
      · skip
        go_enter Tryd.func17, Tryd.ntmps17
        go_wp2
        go_ret
        exact ⟨⟨_, rfl, Or.inr ⟨by omega, by simp only [szCertN]; omega⟩⟩, (Below.refl _ _).alloc (Nat.le_refl _) _⟩

set_option maxRecDepth 20000 in
set_option maxHeartbeats 2000000 in
theorem sz_Certs (es : List CertD) (hs : ∀ e ∈ es, tameCert e) (hm : es.length ≤ maxLen) (k : Nat) (hk : k ≤ 1048576) (a : Value) (w : World) (ha : FArg encCert 5 w a es) :
    Calls Tryd.prog 21 #[a, .int .i64 k] w fun e w' => (∃ r : Int, e = .returned (.int .i64 r) ∧ (r < 0 ∨ 0 ≤ r ∧ r + ((es.length + used szCertN es : Nat) : Int) = (k : Int))) ∧ Below w.heap.size w w' := by
  obtain ⟨p, c, rfl, hp⟩ := ha
  have HP := hid hp
  have HS := hid hs
  unfold maxLen at hm
  clear hp hs
  by_cases hl : es.length ≤ k
  · go_enter Tryd.func21, Tryd.ntmps21
    go_wp2
    go_loopw [1, 5] (fun lv iv wr => ∃ i : Nat, ∃ r : Int, i ≤ es.length ∧ iv = .int .i64 i ∧ lv = .int .i64 r ∧ 0 ≤ r ∧ r ≤ 1048576 ∧ Below w.heap.size w wr ∧ Hid (r = (k : Int) - (es.length : Int) - (used szCertN (es.take i) : Int))) (fun _ iv _ => es.length - (RowKit.intOf iv).toNat)
    case atStart => exact ⟨0, _, Nat.zero_le _, rfl, rfl, by omega, by omega, Below.refl _ _, hid (by simp [used])⟩
    case round =>
      obtain ⟨i, r, hi, rfl, rfl, hr0, hr1, hbel, HR⟩ := hrel
      have HB := hid hbel
      by_cases hlt : i < es.length
      · obtain ⟨ad, rfl, hbl, hc⟩ := HP.out i hlt
        have c0 : wr.cell? (ad.add (i * 5)) = some (.string es[i].x0) := by
          rw [show ad.add (i * 5) = ad.add (i * 5 + 0) from rfl]
          rw [hbel.cell (p := ad.add (i * 5 + 0)) (by rw [add_block]; exact hbl)]
          exact hc 0 (by decide)
        have c1 : wr.cell? ⟨(ad.add (i * 5)).block, (ad.add (i * 5)).off + 1, none⟩ = some (.string es[i].x1) := by
          rw [add_at, if_neg (by omega)]
          rw [hbel.cell (p := ad.add (i * 5 + 1)) (by rw [add_block]; exact hbl)]
          exact hc 1 (by decide)
        have c2 : wr.cell? ⟨(ad.add (i * 5)).block, (ad.add (i * 5)).off + 2, none⟩ = some (.int .i64 es[i].x2) := by
          rw [add_at, if_neg (by omega)]
          rw [hbel.cell (p := ad.add (i * 5 + 2)) (by rw [add_block]; exact hbl)]
          exact hc 2 (by decide)
        have c3 : wr.cell? ⟨(ad.add (i * 5)).block, (ad.add (i * 5)).off + 3, none⟩ = some (.int .i64 es[i].x3) := by
          rw [add_at, if_neg (by omega)]
          rw [hbel.cell (p := ad.add (i * 5 + 3)) (by rw [add_block]; exact hbl)]
          exact hc 3 (by decide)
        have c4 : wr.cell? ⟨(ad.add (i * 5)).block, (ad.add (i * 5)).off + 4, none⟩ = some (.string es[i].x4) := by
          rw [add_at, if_neg (by omega)]
          rw [hbel.cell (p := ad.add (i * 5 + 4)) (by rw [add_block]; exact hbl)]
          exact hc 4 (by decide)
        have hx := HS.out es[i] (List.getElem_mem hlt)
        unfold tameCert at hx
        have HTK := hid (used_take szCertN es i hlt)
        clear hbel hc
        generalize es[i] = ei at *
        obtain ⟨x0, x1, x2, x3, x4⟩ := ei
        have CS := hid (fun (W : World) => sz_Cert x0 x1 x2 x3 x4 hx.1 hx.2.1 hx.2.2.1 r hr0 hr1 W)
        clear hx
        go_wp2_with (go_at_call 17; refine (CS.out _).mono ?_; rintro e w5 ⟨⟨r2, rfl, hr2⟩, hb5⟩; refine Hid.out ?_)
        refine hid ?_
        have HB5 := hid (HB.out.trans (hb5.mono HB.out.size))
        clear hb5 c0 c1 c2 c3 c4
        rcases hr2 with hr2 | ⟨hr2, hr3⟩
        · go_wp2
          go_ret
          exact ⟨⟨-1, rfl, Or.inl (by omega)⟩, HB5.out⟩
        · have hr4 : r2 ≤ 1048576 := by omega
          have hr5 : ¬ r2 < 0 := by omega
          have HR3 := hid hr3
          clear hr3
          go_wp2
          go_roundw
          case rel => exact ⟨i + 1, _, by omega, by go_num, rfl, by omega, by omega, HB5.out, hid (by have := HR.out; have := HR3.out; rw [HTK.out]; omega)⟩
          case measure => simp [RowKit.intOf]; omega
      · have hie : i = es.length := by omega
        subst hie
        clear hbel
        go_wp2
        go_ret
        refine ⟨⟨r, rfl, Or.inr ⟨hr0, ?_⟩⟩, HB.out⟩
        have := HR.out
        rw [List.take_of_length_le (Nat.le_refl _)] at this
        omega
  · go_enter Tryd.func21, Tryd.ntmps21
    go_wp2
    go_ret
    exact ⟨⟨-1, rfl, Or.inl (by omega)⟩, Below.refl _ _⟩

end Go.Proofs.YtponjghppnpnhaaDoor
