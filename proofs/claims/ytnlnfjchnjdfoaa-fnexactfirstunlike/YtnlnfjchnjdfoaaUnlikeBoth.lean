/- FirstUnlike, the program's and the specification's: both tell the first place at which two rows of events are unlike. -/
import Derived.Test.YtnlnfjchnjdfoaaRowEvent
import Derived.Deep.QuietTactic
import Derived.BigQuiet
namespace Go.Proofs.Ytnlnfjchnjdfoaa
open Go.RowKit
open Go.Lib (hid)

/-- r is the first place at which the two are unlike, or -1. -/
def IsUnlike (us vs : List EventD) (r : Int) : Prop :=
  (r = -1 ∧ us = vs) ∨ ∃ i : Nat, r = i ∧ (∀ j, j < i → us[j]? = vs[j]?) ∧ us[i]? ≠ vs[i]?

theorem IsUnlike.one {us vs : List EventD} {r q : Int} (h : IsUnlike us vs r) (k : IsUnlike us vs q) : r = q := by
  rcases h with ⟨rfl, e⟩ | ⟨i, rfl, hi, ni⟩
  · rcases k with ⟨rfl, _⟩ | ⟨j, rfl, hj, nj⟩
    · rfl
    · exact absurd (by rw [e]) nj
  · rcases k with ⟨rfl, e⟩ | ⟨j, rfl, hj, nj⟩
    · exact absurd (by rw [e]) ni
    · rcases Nat.lt_trichotomy i j with h | h | h
      · exact absurd (hj i h) ni
      · rw [h]
      · exact absurd (hi j h) nj

theorem alike_all {us vs : List EventD} (h : ∀ j, j < max us.length vs.length → us[j]? = vs[j]?) : us = vs := by
  apply List.ext_getElem?
  intro j
  by_cases hj : j < max us.length vs.length
  · exact h j hj
  · rw [List.getElem?_eq_none (by omega), List.getElem?_eq_none (by omega)]

theorem like_succ {us vs : List EventD} {i : Nat} (h : ∀ j, j < i → us[j]? = vs[j]?) (hi : us[i]? = vs[i]?) : ∀ j, j < i + 1 → us[j]? = vs[j]? := fun j hj => by
  rcases Nat.lt_or_ge j i with h1 | h1
  · exact h j h1
  · have : j = i := by omega
    subst this; exact hi

set_option maxRecDepth 20000 in
set_option maxHeartbeats 4000000 in
theorem unlike_impl (us vs : List EventD) (ha1 : us.length ≤ 1048576) (a b : Value) (w : World) (ha : FRow encEvent 2 w a us) (hb : FRow encEvent 2 w b vs) :
    Calls Try.prog 7 #[a, b] w fun e w' => (∃ r : Int, e = .returned (.int .i64 r) ∧ IsUnlike us vs r) ∧ Below w.heap.size w w' := by
  obtain ⟨p, c, rfl, _, hp⟩ := ha
  obtain ⟨q, d, rfl, _, hq⟩ := hb
  have HP := hid hp
  have HQ := hid hq
  clear hp hq
  go_enter Try.func7, Try.ntmps7
  go_wp2
  all_goals
    go_loopw [11] (fun iv wr => ∃ i : Nat, i ≤ max us.length vs.length ∧ iv = .int .i64 i ∧ Below w.heap.size w wr ∧ ∀ j, j < i → us[j]? = vs[j]?) (fun iv _ => max us.length vs.length - (RowKit.intOf iv).toNat)
    case atStart => exact ⟨0, Nat.zero_le _, rfl, Below.refl _ _, fun j hj => absurd hj (by omega)⟩
    case round =>
      obtain ⟨i, hi, rfl, hbel, hlike⟩ := hrel
      have HL := hid hlike
      clear hlike
      by_cases hA : i < us.length
      · by_cases hB : i < vs.length
        · obtain ⟨g, o, rfl, hg, hc⟩ := HP.out (fun h => by rw [h] at hA; cases hA)
          obtain ⟨g2, o2, rfl, hg2, hc2⟩ := HQ.out (fun h => by rw [h] at hB; cases hB)
          have k0 : wr.cell? ⟨g, o + i * 2, none⟩ = some (.int .i64 us[i].x0) := by rw [hbel.cell (p := ⟨g, o + i * 2, none⟩) hg]; exact hc i hA 0 (by decide)
          have k1 : wr.cell? ⟨g, o + i * 2 + 1, none⟩ = some (.string us[i].x1) := by rw [hbel.cell (p := ⟨g, o + i * 2 + 1, none⟩) hg]; exact hc i hA 1 (by decide)
          have l0 : wr.cell? ⟨g2, o2 + i * 2, none⟩ = some (.int .i64 vs[i].x0) := by rw [hbel.cell (p := ⟨g2, o2 + i * 2, none⟩) hg2]; exact hc2 i hB 0 (by decide)
          have l1 : wr.cell? ⟨g2, o2 + i * 2 + 1, none⟩ = some (.string vs[i].x1) := by rw [hbel.cell (p := ⟨g2, o2 + i * 2 + 1, none⟩) hg2]; exact hc2 i hB 1 (by decide)
          have HEA := hid (List.getElem?_eq_getElem hA)
          have HEB := hid (List.getElem?_eq_getElem hB)
          have d1 : ¬ us.length ≤ i := by omega
          have d2 : ¬ vs.length ≤ i := by omega
          have b1 : (0 : Int) ≤ (i : Int) := by omega
          have b2 : (i : Int) < (us.length : Int) := by omega
          have b3 : (i : Int) < (vs.length : Int) := by omega
          have HB := hid hbel
          clear hc hc2 hbel hi
          try clear h
          generalize us[i] = ei at *
          generalize vs[i] = fi at *
          obtain ⟨x0, x1⟩ := ei
          obtain ⟨y0, y1⟩ := fi
          by_cases he : x0 = y0 ∧ x1 = y1
          · obtain ⟨rfl, rfl⟩ := he
            have HE := hid (HEA.out.trans HEB.out.symm)
            have hyy : (x1.toList == x1.toList) = true := by simp
            have hyn : (x1.toList != x1.toList) = false := by simp
            have hxx : (x0 == x0) = true := by simp
            go_wp2
            go_quiet (fail)
            go_wp2
            go_roundw
            case rel => exact ⟨i + 1, by omega, by go_num, drewN_below HB.out _, like_succ HL.out HE.out⟩
            case measure => simp [RowKit.intOf]; omega
          · have hnn : ((x0 == y0) && (x1.toList == y1.toList)) = false := by
              rw [Bool.eq_false_iff]
              intro h
              rw [Bool.and_eq_true, beq_iff_eq, beq_iff_eq, ByteArray.toList_eq, ByteArray.toList_eq] at h
              exact he ⟨h.1, ByteArray.ext (Array.ext' h.2)⟩
            have HN : Hid (us[i]? ≠ vs[i]?) := hid (by rw [HEA.out, HEB.out]; intro h; injection h with h; injection h with h1 h2; exact he ⟨h1, h2⟩)
            clear he
            cases hx : (x0 == y0) with
            | true =>
              rw [hx, Bool.true_and] at hnn
              go_wp2
              go_quiet (fail)
              go_wp2
              go_ret
              exact ⟨⟨i, rfl, Or.inr ⟨i, rfl, HL.out, HN.out⟩⟩, drewN_below HB.out _⟩
            | false =>
              clear hnn
              go_wp2
              go_quiet (fail)
              go_wp2
              go_ret
              exact ⟨⟨i, rfl, Or.inr ⟨i, rfl, HL.out, HN.out⟩⟩, drewN_below HB.out _⟩
        · first
          | (exfalso; omega)
          | (have hB2 : vs.length ≤ i := by omega
             have HN : Hid (us[i]? ≠ vs[i]?) := hid (by rw [List.getElem?_eq_getElem hA, List.getElem?_eq_none (by omega)]; intro h; cases h)
             have d1 : ¬ us.length ≤ i := by omega
             have HB := hid hbel
             clear hbel hi
             try clear h
             go_wp2
             go_quiet (fail)
             go_wp2
             go_ret
             exact ⟨⟨i, rfl, Or.inr ⟨i, rfl, HL.out, HN.out⟩⟩, drewN_below HB.out _⟩)
      · have hA2 : us.length ≤ i := by omega
        by_cases hB : i < vs.length
        · first
          | (exfalso; omega)
          | (have HN : Hid (us[i]? ≠ vs[i]?) := hid (by rw [List.getElem?_eq_getElem hB, List.getElem?_eq_none (by omega)]; intro h; cases h)
             have HB := hid hbel
             clear hbel hi
             try clear h
             go_wp2
             go_quiet (fail)
             go_wp2
             go_ret
             exact ⟨⟨i, rfl, Or.inr ⟨i, rfl, HL.out, HN.out⟩⟩, drewN_below HB.out _⟩)
        · have hB2 : vs.length ≤ i := by omega
          have HE := hid (alike_all (us := us) (vs := vs) (fun j hj => HL.out j (by omega)))
          have HB := hid hbel
          clear hbel hi
          try clear h
          go_wp2
          go_ret
          exact ⟨⟨-1, rfl, Or.inl ⟨rfl, HE.out⟩⟩, HB.out⟩

set_option maxRecDepth 20000 in
set_option maxHeartbeats 4000000 in
theorem unlike_spec (us vs : List EventD) (ha1 : us.length ≤ 1048576) (a b : Value) (w : World) (ha : FRow encEvent 2 w a us) (hb : FRow encEvent 2 w b vs) :
    Calls Try.prog 5 #[a, b] w fun e w' => (∃ r : Int, e = .returned (.int .i64 r) ∧ IsUnlike us vs r) ∧ Below w.heap.size w w' := by
  obtain ⟨p, c, rfl, _, hp⟩ := ha
  obtain ⟨q, d, rfl, _, hq⟩ := hb
  have HP := hid hp
  have HQ := hid hq
  clear hp hq
  go_enter Try.func5, Try.ntmps5
  go_wp2
  go_loopw [5] (fun iv wr => ∃ i : Nat, i ≤ max us.length vs.length ∧ iv = .int .i64 i ∧ Below w.heap.size w wr ∧ ∀ j, j < i → us[j]? = vs[j]?) (fun iv _ => max us.length vs.length - (RowKit.intOf iv).toNat)
  case atStart => exact ⟨0, Nat.zero_le _, rfl, Below.refl _ _, fun j hj => absurd hj (by omega)⟩
  case round =>
    obtain ⟨i, _, rfl, hbel, hlike⟩ := hrel
    have HL := hid hlike
    clear hlike
    by_cases hA : i < us.length
    · by_cases hB : i < vs.length
      · obtain ⟨g, o, rfl, hg, hc⟩ := HP.out (fun h => by rw [h] at hA; cases hA)
        obtain ⟨g2, o2, rfl, hg2, hc2⟩ := HQ.out (fun h => by rw [h] at hB; cases hB)
        have k0 : wr.cell? ⟨g, o + i * 2, none⟩ = some (.int .i64 us[i].x0) := by rw [hbel.cell (p := ⟨g, o + i * 2, none⟩) hg]; exact hc i hA 0 (by decide)
        have k1 : wr.cell? ⟨g, o + i * 2 + 1, none⟩ = some (.string us[i].x1) := by rw [hbel.cell (p := ⟨g, o + i * 2 + 1, none⟩) hg]; exact hc i hA 1 (by decide)
        have l0 : wr.cell? ⟨g2, o2 + i * 2, none⟩ = some (.int .i64 vs[i].x0) := by rw [hbel.cell (p := ⟨g2, o2 + i * 2, none⟩) hg2]; exact hc2 i hB 0 (by decide)
        have l1 : wr.cell? ⟨g2, o2 + i * 2 + 1, none⟩ = some (.string vs[i].x1) := by rw [hbel.cell (p := ⟨g2, o2 + i * 2 + 1, none⟩) hg2]; exact hc2 i hB 1 (by decide)
        have HEA := hid (List.getElem?_eq_getElem hA)
        have HEB := hid (List.getElem?_eq_getElem hB)
        skip
        have d1 : ¬ us.length ≤ i := by omega
        have d2 : ¬ vs.length ≤ i := by omega
        have b1 : (0 : Int) ≤ (i : Int) := by omega
        have b2 : (i : Int) < (us.length : Int) := by omega
        have b3 : (i : Int) < (vs.length : Int) := by omega
        have HB := hid hbel
        clear hc hc2 hbel
        generalize us[i] = ei at *
        generalize vs[i] = fi at *
        obtain ⟨x0, x1⟩ := ei
        obtain ⟨y0, y1⟩ := fi
        by_cases he : x0 = y0 ∧ x1 = y1
        · obtain ⟨rfl, rfl⟩ := he
          have HE := hid (HEA.out.trans HEB.out.symm)
          have hyy : (x1.toList == x1.toList) = true := by simp
          have hyn : (x1.toList != x1.toList) = false := by simp
          have hxx : (x0 == x0) = true := by simp
          go_wp2
          go_quiet (fail)
          go_wp2
          go_roundw
          case rel => exact ⟨i + 1, by omega, by go_num, drewN_below HB.out _, like_succ HL.out HE.out⟩
          case measure => simp [RowKit.intOf]; omega
        · have hnn : ((x0 == y0) && (x1.toList == y1.toList)) = false := by
            rw [Bool.eq_false_iff]
            intro h
            rw [Bool.and_eq_true, beq_iff_eq, beq_iff_eq, ByteArray.toList_eq, ByteArray.toList_eq] at h
            exact he ⟨h.1, ByteArray.ext (Array.ext' h.2)⟩
          have HN : Hid (us[i]? ≠ vs[i]?) := hid (by rw [HEA.out, HEB.out]; intro h; injection h with h; injection h with h1 h2; exact he ⟨h1, h2⟩)
          clear he
          cases hx : (x0 == y0) with
          | true =>
            rw [hx, Bool.true_and] at hnn
            go_wp2
            go_quiet (fail)
            go_wp2
            go_ret
            exact ⟨⟨i, rfl, Or.inr ⟨i, rfl, HL.out, HN.out⟩⟩, drewN_below HB.out _⟩
          | false =>
            clear hnn
            go_wp2
            go_quiet (fail)
            go_wp2
            go_ret
            exact ⟨⟨i, rfl, Or.inr ⟨i, rfl, HL.out, HN.out⟩⟩, drewN_below HB.out _⟩
      · have hB2 : vs.length ≤ i := by omega
        have HN : Hid (us[i]? ≠ vs[i]?) := hid (by rw [List.getElem?_eq_getElem hA, List.getElem?_eq_none (by omega)]; intro h; cases h)
        skip
        have d1 : ¬ us.length ≤ i := by omega
        have HB := hid hbel
        clear hbel
        go_wp2
        go_quiet (fail)
        go_wp2
        go_ret
        exact ⟨⟨i, rfl, Or.inr ⟨i, rfl, HL.out, HN.out⟩⟩, drewN_below HB.out _⟩
    · have hA2 : us.length ≤ i := by omega
      by_cases hB : i < vs.length
      · have HN : Hid (us[i]? ≠ vs[i]?) := hid (by rw [List.getElem?_eq_getElem hB, List.getElem?_eq_none (by omega)]; intro h; cases h)
        skip
        skip
        have HB := hid hbel
        clear hbel
        go_wp2
        go_quiet (fail)
        go_wp2
        go_ret
        exact ⟨⟨i, rfl, Or.inr ⟨i, rfl, HL.out, HN.out⟩⟩, drewN_below HB.out _⟩
      · have hB2 : vs.length ≤ i := by omega
        have HE := hid (alike_all (us := us) (vs := vs) (fun j hj => HL.out j (by omega)))
        skip
        skip
        have HB := hid hbel
        clear hbel
        go_wp2
        go_ret
        exact ⟨⟨-1, rfl, Or.inl ⟨rfl, HE.out⟩⟩, HB.out⟩
end Go.Proofs.Ytnlnfjchnjdfoaa
