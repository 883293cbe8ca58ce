/- Rows of writes: their cells, two held against each other, marks. -/
import Derived.Test.YtdkleogklfgafaaNvHelp
import Derived.Deep.RegionHeld3
namespace Go.Proofs.Ytdkleogklfgafaa
open Go.RowKit
open Go.Lib (hid)

/-- A row of n writes, its cells in order: a place, a value, a place, a value. -/
def WRow (w : World) (a : Value) (n : Nat) (F : List Int) : Prop :=
  F.length = 2 * n ∧ ∃ p c, a = .slice p n c ∧ n ≤ c ∧ (0 < n → ∃ g o, p = some ⟨g, o, none⟩ ∧ g < w.heap.size ∧ ∀ i (hi : i < F.length), w.cell? ⟨g, o + i, none⟩ = some (.int .i64 F[i]))

theorem WRow.on {w w' : World} {a : Value} {n : Nat} {F : List Int} (h : WRow w a n F) (hb : Below w.heap.size w w') : WRow w' a n F := by
  obtain ⟨h0, p, c, rfl, hc, hp⟩ := h
  refine ⟨h0, p, c, rfl, hc, fun hn => ?_⟩
  obtain ⟨g, o, rfl, hg, hcell⟩ := hp hn
  exact ⟨g, o, rfl, Nat.lt_of_lt_of_le hg hb.size, fun i hi => by rw [hb.cell (p := ⟨g, o + i, none⟩) hg]; exact hcell i hi⟩

theorem wrow_own {w : World} {base n : Nat} {a : Value} {F : List Int} (hF : F.length = 2 * n) (h : w.ownsRow base 71 2 a n (ints F)) : WRow w a n F := by
  refine ⟨hF, ?_⟩
  rcases h.2 with ⟨hv, hz⟩ | ⟨g, cap, cur, hv, hb, hg, hnc, _⟩
  · exact ⟨none, 0, by rw [hv, hz], by omega, fun h => by omega⟩
  · refine ⟨some ⟨g, 0, none⟩, cap, hv, hnc, fun _ => ⟨g, 0, rfl, (Array.getElem?_eq_some_iff.1 hg).1, fun i hi => ?_⟩⟩
    subst hv
    rw [Nat.zero_add, h.cellAt i (by omega), ints_at F i hi]

set_option maxHeartbeats 1000000 in
theorem eq_write (x y : Int) (w : World) : Calls Try.prog 49 #[.agg #[.int .i64 x, .int .i64 y], .agg #[.int .i64 x, .int .i64 y]] w fun e w' => e = .returned (.bool true) ∧ Below w.heap.size w w' := by
  go_enter Try.func49, Try.ntmps49
  go_wp2
  go_ret
  exact ⟨rfl, ((Below.refl _ _).alloc (Nat.le_refl _) _).alloc (by simp) _⟩

set_option maxRecDepth 20000 in
set_option maxHeartbeats 1000000 in
theorem eq_writes (n : Nat) (F : List Int) (hn : n ≤ 100000000) (a b : Value) (w : World) (ha : WRow w a n F) (hb : WRow w b n F) :
    Calls Try.prog 21 #[a, b] w fun e w' => e = .returned (.bool true) ∧ Below w.heap.size w w' := by
  obtain ⟨hF, p, c, rfl, _, hp⟩ := ha
  obtain ⟨_, q, e, rfl, _, hq⟩ := hb
  have HP := hid hp
  have HQ := hid hq
  clear hp hq
  go_enter Try.func21, Try.ntmps21
  go_wp2
  go_loopw [5] (fun iv wr => ∃ i : Nat, i ≤ n ∧ iv = .int .i64 i ∧ Below w.heap.size w wr) (fun iv _ => n - (RowKit.intOf iv).toNat)
  case atStart => exact ⟨0, Nat.zero_le _, rfl, Below.refl _ _⟩
  case round =>
    obtain ⟨i, hi, rfl, hbel⟩ := hrel
    by_cases hlt : i < n
    · obtain ⟨g, o, rfl, hg, hc⟩ := HP.out (by omega)
      obtain ⟨g2, o2, rfl, hg2, hc2⟩ := HQ.out (by omega)
      have a0 := hc (i * 2) (by omega)
      have a1 := hc (i * 2 + 1) (by omega)
      have d0 := hc2 (i * 2) (by omega)
      have d1 := hc2 (i * 2 + 1) (by omega)
      rw [← hbel.cell (p := ⟨g, o + i * 2, none⟩) hg] at a0
      rw [← hbel.cell (p := ⟨g, o + (i * 2 + 1), none⟩) hg, ← Nat.add_assoc] at a1
      rw [← hbel.cell (p := ⟨g2, o2 + i * 2, none⟩) hg2] at d0
      rw [← hbel.cell (p := ⟨g2, o2 + (i * 2 + 1), none⟩) hg2, ← Nat.add_assoc] at d1
      clear hc hc2
      generalize F[i * 2] = x at *
      generalize F[i * 2 + 1] = y at *
      have b1 : (0 : Int) ≤ (i : Int) := by omega
      have b2 : (i : Int) < (n : Int) := by omega
      have hgw : g < wr.heap.size := Nat.lt_of_lt_of_le hg hbel.size
      have hgw2 : g2 < wr.heap.size := Nat.lt_of_lt_of_le hg2 hbel.size
      have k0 : ∀ W : World, Below wr.heap.size wr W → W.cell? ⟨g, o + i * 2, none⟩ = some (.int .i64 x) := fun W hW => (hW.cell (p := ⟨g, o + i * 2, none⟩) hgw).trans a0
      have k1 : ∀ W : World, Below wr.heap.size wr W → W.cell? ⟨g, o + i * 2 + 1, none⟩ = some (.int .i64 y) := fun W hW => (hW.cell (p := ⟨g, o + i * 2 + 1, none⟩) hgw).trans a1
      have k2 : ∀ W : World, Below wr.heap.size wr W → W.cell? ⟨g2, o2 + i * 2, none⟩ = some (.int .i64 x) := fun W hW => (hW.cell (p := ⟨g2, o2 + i * 2, none⟩) hgw2).trans d0
      have k3 : ∀ W : World, Below wr.heap.size wr W → W.cell? ⟨g2, o2 + i * 2 + 1, none⟩ = some (.int .i64 y) := fun W hW => (hW.cell (p := ⟨g2, o2 + i * 2 + 1, none⟩) hgw2).trans d1
      have HB := hid hbel
      have CE := hid (eq_write x y)
      clear a0 a1 d0 d1 hbel
      go_wp2
      go_region_held3 (fun w' => Below wr.heap.size wr w') (first | with_reducible assumption | exact Below.drew (Below.refl _ _) | exact below_step (by assumption) (by simp) (by assumption)) ((go_at_call 49; refine (CE.out _).mono ?_; rintro e w5 ⟨rfl, hb5⟩))
      rename_i hS
      have HS := hid (HB.out.trans (hS.mono HB.out.size))
      clear hS hb5 k0 k1 k2 k3
      go_wp2
      go_roundw
      case rel => exact ⟨i + 1, by omega, by go_num, HS.out⟩
      case measure => simp [RowKit.intOf]; omega
    · have hie : i = n := by omega
      subst hie
      go_wp2
      go_ret
      exact ⟨rfl, hbel⟩
set_option maxRecDepth 20000 in
set_option maxHeartbeats 1000000 in
theorem mark_writes (F : List Int) (k n : Nat) (hF : F.length = 2 * n) (hn : k + 2 * n ≤ 1000000000) (base : Nat) (a : Value) (w : World) (ha : w.ownsRow base 71 2 a n (ints F)) :
    Calls Try.prog 23 #[a, .int .i64 k] w fun e w' => e = .returned (.int .i64 ((k + 2 * n : Nat) : Int)) ∧ w.grownBy w' a.ownBlock ∧ w'.ownsRow base 71 2 a n (ints (imarks k (2 * n))) := by
  rcases ha.2 with ⟨rfl, hz⟩ | ⟨g, c, _, rfl, _⟩
  · subst hz
    have HA := hid ha
    clear ha
    go_enter Try.func23, Try.ntmps23
    go_wp2
    go_loopw [1, 5] (fun kv iv wr => iv = .int .i64 0 ∧ kv = .int .i64 k ∧ wr = w) (fun _ iv _ => 0)
    case atStart => exact ⟨rfl, rfl, rfl⟩
    case round =>
      obtain ⟨rfl, rfl, rfl⟩ := hrel
      go_wp2
      go_ret
      refine ⟨rfl, grown_refl _ _, ?_⟩
      have hF0 : F = [] := List.eq_nil_of_length_eq_zero (by omega)
      subst hF0
      exact HA.out
  · have HA := hid ha
    clear ha
    go_enter Try.func23, Try.ntmps23
    go_wp2
    go_loopw [1, 5] (fun kv iv wr => ∃ i : Nat, i ≤ n ∧ iv = .int .i64 i ∧ kv = .int .i64 ((k + 2 * i : Nat) : Int) ∧ w.grownBy wr (some g) ∧ wr.ownsRow base 71 2 (.slice (some ⟨g, 0, none⟩) n c) n (ints (imixed F k (i * 2)))) (fun _ iv _ => n - (RowKit.intOf iv).toNat)
    case atStart => exact ⟨0, Nat.zero_le _, rfl, rfl, grown_refl _ _, by have := HA.out; simpa [imixed, imarks] using this⟩
    case round =>
      obtain ⟨i, hi, rfl, rfl, hgr, hown⟩ := hrel
      have HG := hid hgr
      by_cases hlt : i < n
      · have hl := imixed_len F k (i * 2) (by omega)
        have a0 := hown.cellAt (i * 2) (by omega)
        have a1 := hown.cellAt (i * 2 + 1) (by omega)
        rw [ints_at _ (i * 2) (by omega)] at a0
        rw [ints_at _ (i * 2 + 1) (by omega)] at a1
        have f0 := hown.frozenAt (i * 2)
        have f1 := hown.frozenAt (i * 2 + 1)
        have h1 := hown.stored (i * 2) (.int .i64 ((k + 2 * i : Nat) : Int))
        have h2 := h1.1.stored (i * 2 + 1) (.int .i64 ((k + 2 * i + 1 : Nat) : Int))
        rw [ints_set, ints_set, show k + 2 * i = k + i * 2 by omega, imixed_set F k (i * 2) (by omega), show k + i * 2 + 1 = k + (i * 2 + 1) by omega, imixed_set F k (i * 2 + 1) (by omega), show i * 2 + 1 + 1 = (i + 1) * 2 by omega, show k + i * 2 = k + 2 * i by omega, show k + (i * 2 + 1) = k + 2 * i + 1 by omega] at h2
        have HS := hid h2.1
        have HS2 := hid (grown_trans hgr (grown_trans h1.2 h2.2))
        rw [show k + 2 * i + 1 = k + 2 * i + 1 from rfl] at HS2
        have b1 : (0 : Int) ≤ (i : Int) := by omega
        have b2 : (i : Int) < (n : Int) := by omega
        have b3 : k + 2 * i + 1 ≤ 1000000000 := by omega
        clear hown hgr h1 h2
        generalize (imixed F k (i * 2))[i * 2]'_ = y at a0
        generalize (imixed F k (i * 2))[i * 2 + 1]'_ = z at a1
        go_wp2
        go_roundw
        case rel => exact ⟨i + 1, by omega, by go_num, by rw [show k + 2 * (i + 1) = k + 2 * i + 1 + 1 by omega]; go_num, HS2.out, HS.out⟩
        case measure => simp [RowKit.intOf]; omega
      · have hie : i = n := by omega
        subst hie
        have HO := hid hown
        clear hown hgr
        go_wp2
        go_ret
        exact ⟨rfl, HG.out, by have := HO.out; rw [show i * 2 = F.length by omega, imixed_all, hF] at this; exact this⟩
end Go.Proofs.Ytdkleogklfgafaa
