/- The helpers of the laws on slices of texts that come in: their size, and a copy of them. -/
import Derived.Test.YtjaaplcgphlccaaGreatDoorBase
import Derived.Test.YtjaaplcgphlccaaGreatDoorMarks
import Derived.Deep.RegionWith
namespace Go.Proofs.YtjaaplcgphlccaaGreatDoor
open Go.RowKit
open Go.Lib (hid)

/-- A row of texts that came in, wherever it lies. -/
def ArgAt (w : World) (a : Value) (ps : List (List UInt8)) : Prop :=
  ∃ p c, a = .slice p ps.length c ∧ ∀ i (hi : i < ps.length), ∃ ad : Addr, p = some ad ∧ ad.block < w.heap.size ∧ w.cell? (ad.add i) = some (.string ⟨ps[i].toArray⟩)

theorem ArgAt.on {w w' : World} {a : Value} {ps : List (List UInt8)} (h : ArgAt w a ps) (hb : Below w.heap.size w w') : ArgAt w' a ps := by
  obtain ⟨p, c, rfl, hp⟩ := h
  refine ⟨p, c, rfl, fun i hi => ?_⟩
  obtain ⟨ad, rfl, hl, hc⟩ := hp i hi
  exact ⟨ad, rfl, Nat.lt_of_lt_of_le hl hb.size, by rw [hb.cell (p := ad.add i) (by rw [add_block]; exact hl)]; exact hc⟩

def total (ps : List (List UInt8)) : Nat := (ps.map List.length).sum

theorem total_take (ps : List (List UInt8)) (i : Nat) (h : i < ps.length) : total (ps.take (i + 1)) = total (ps.take i) + ps[i].length := by
  unfold total
  rw [List.take_succ_eq_append_getElem h, List.map_append, List.sum_append]
  simp only [List.map_cons, List.map_nil, List.sum_cons, List.sum_nil, Nat.add_zero]

/-- The size that is asked: as long as it is not used up, no more than it. -/
theorem sz_calls (ps : List (List UInt8)) (hs : ∀ p ∈ ps, p.length ≤ 9223372036854775807) (hn : ps.length ≤ 9223372036854775807) (a : Value) (w : World) (ha : ArgAt w a ps) :
    Calls Tryz.prog 19 #[a, .int .i64 1048576] w fun e w' => (∃ r : Int, e = .returned (.int .i64 r) ∧ (r < 0 ∨ 0 ≤ r ∧ ps.length + total ps ≤ 1048576)) ∧ Below w.heap.size w w' := by
  obtain ⟨p, c, rfl, hp⟩ := ha
  have HP := hid hp
  have HS := hid hs
  clear hp hs
  by_cases hl : ps.length ≤ 1048576
  · go_enter Tryz.func19, Tryz.ntmps19
    go_wp2
    go_loopw [1, 5] (fun lv iv wr => ∃ i : Nat, ∃ r : Int, i ≤ ps.length ∧ iv = .int .i64 i ∧ lv = .int .i64 r ∧ 0 ≤ r ∧ r ≤ 1048576 ∧ Below w.heap.size w wr ∧ Hid (r = 1048576 - (ps.length : Int) - (total (ps.take i) : Int))) (fun _ iv _ => ps.length - (RowKit.intOf iv).toNat)
    case atStart => exact ⟨0, _, Nat.zero_le _, rfl, rfl, by omega, by omega, Below.refl _ _, hid (by simp [total])⟩
    case round =>
      obtain ⟨i, r, hi, rfl, rfl, hr0, hr1, hbel, HR⟩ := hrel
      have HB := hid hbel
      by_cases hlt : i < ps.length
      · obtain ⟨ad, rfl, hbl, hc⟩ := HP.out i hlt
        have hc1 : wr.cell? (ad.add i) = some (.string ⟨ps[i].toArray⟩) := by rw [hbel.cell (p := ad.add i) (by rw [add_block]; exact hbl)]; exact hc
        have hx1 := HS.out ps[i] (List.getElem_mem hlt)
        have hx2 : (⟨ps[i].toArray⟩ : ByteArray).size = ps[i].length := by show ps[i].toArray.size = _; simp
        have HTK := hid (total_take ps i hlt)
        rw [← hx2] at hx1
        have HX := hid hx2
        clear hx2 hc
        generalize (⟨ps[i].toArray⟩ : ByteArray) = x at *
        clear hbel
        by_cases hneg : r - (x.size : Int) < 0
        · go_wp2
          go_ret
          exact ⟨⟨-1, rfl, Or.inl (by omega)⟩, HB.out⟩
        · go_wp2
          go_roundw
          case rel => exact ⟨i + 1, _, by omega, by go_num, rfl, by omega, by omega, HB.out, hid (by have := HR.out; rw [HTK.out, ← HX.out]; omega)⟩
          case measure => simp [RowKit.intOf]; omega
      · have hie : i = ps.length := by omega
        subst hie
        clear hbel
        go_wp2
        go_ret
        refine ⟨⟨r, rfl, Or.inr ⟨hr0, ?_⟩⟩, HB.out⟩
        have := HR.out
        rw [List.take_of_length_le (Nat.le_refl _)] at this
        omega
  · go_enter Tryz.func19, Tryz.ntmps19
    go_wp2
    go_ret
    exact ⟨⟨-1, rfl, Or.inl (by omega)⟩, Below.refl _ _⟩

/-- The copy while it is being filled. -/
def filled (ps : List (List UInt8)) (i : Nat) : List Value := strs (ps.take i ++ List.replicate (ps.length - i) [])

theorem filled_all (ps : List (List UInt8)) : filled ps ps.length = strs ps := by
  unfold filled
  rw [List.take_of_length_le (Nat.le_refl _), Nat.sub_self]
  simp

theorem filled_at (ps : List (List UInt8)) (i : Nat) (h : i < ps.length) : ∃ v, (filled ps i)[i]? = some v := by
  have : i < (filled ps i).length := by
    unfold filled
    rw [strs_len, List.length_append, List.length_take, List.length_replicate]
    omega
  exact ⟨_, List.getElem?_eq_getElem this⟩

theorem filled_set (ps : List (List UInt8)) (i : Nat) (h : i < ps.length) : (filled ps i).set i (.string ⟨ps[i].toArray⟩) = filled ps (i + 1) := by
  apply List.ext_getElem?
  intro j
  unfold filled strs
  rw [List.getElem?_set]
  simp only [List.length_map, List.length_append, List.length_take, List.length_replicate]
  by_cases hj : i = j
  · subst hj
    rw [if_pos rfl, if_pos (by omega), List.getElem?_map, List.getElem?_append_left (by rw [List.length_take]; omega), List.getElem?_take, if_pos (by omega), List.getElem?_eq_getElem h]
    rfl
  · rw [if_neg hj]
    simp only [List.getElem?_map]
    by_cases hlt : j < i
    · rw [List.getElem?_append_left (by rw [List.length_take]; omega), List.getElem?_append_left (by rw [List.length_take]; omega), List.getElem?_take, List.getElem?_take, if_pos hlt, if_pos (by omega)]
    · rw [List.getElem?_append_right (by rw [List.length_take]; omega), List.getElem?_append_right (by rw [List.length_take]; omega), List.length_take, List.length_take]
      rw [List.getElem?_replicate, List.getElem?_replicate]
      by_cases hin : j < ps.length
      · rw [if_pos (by omega), if_pos (by omega)]
      · rw [if_neg (by omega), if_neg (by omega)]

set_option maxRecDepth 20000 in
set_option maxHeartbeats 1000000 in
theorem to_calls (ps : List (List UInt8)) (hn : ps.length ≤ 1048576) (a : Value) (w : World) (ha : ArgAt w a ps) :
    Calls Tryz.prog 26 #[a] w fun e w' => ∃ sv, e = .returned sv ∧ Below w.heap.size w w' ∧ w'.ownsRow w.heap.size 9 1 sv ps.length (strs ps) := by
  obtain ⟨p, c, rfl, hp⟩ := ha
  have HP := hid hp
  clear hp
  obtain ⟨i0, hi0, hz0, hz1, hz2⟩ := info_parts strInfo
  obtain ⟨wm, hrun, hown, hgr⟩ := run_make_full (P := Tryz.prog) w w.heap.size 22 9 i0 _ 1 Tryz.underlying22 hi0 hz0 hz1 .i64 .i64 ps.length (by rw [hz2]; omega) (by unfold maxLen; omega) (Nat.le_refl _)
  have hcells : (madeCells (Value.string ⟨#[]⟩).cells (ps.length * 1)).toList = filled ps 0 := by
    rw [Nat.mul_one]
    show (madeCells #[Value.string ⟨#[]⟩] ps.length).toList = _
    rw [toList_madeCells_one]
    unfold filled strs
    simp
  rw [hcells] at hown
  have hbm : Below w.heap.size w wm := ⟨hgr.os, hgr.tape, hgr.output, hgr.size, fun k hk => hgr.block k hk (by simp)⟩
  have HB := hid hbm
  have HO := hid hown
  have hzm := hgr.size
  clear hown hcells hgr hi0 hz0 hz1 hz2 hbm
  go_enter Tryz.func26, Tryz.ntmps26
  go_wp2
  go_loopw [4] (fun iv wr => ∃ i : Nat, i ≤ ps.length ∧ iv = .int .i64 i ∧ Below w.heap.size w wr ∧ wr.ownsRow w.heap.size 9 1 (.slice (some ⟨w.heap.size, 0, none⟩) ps.length ps.length) ps.length (filled ps i)) (fun iv _ => ps.length - (RowKit.intOf iv).toNat)
  case atStart => exact ⟨0, Nat.zero_le _, rfl, HB.out, HO.out⟩
  case round =>
    obtain ⟨i, hi, rfl, hbel, hown⟩ := hrel
    have HB2 := hid hbel
    have HO2 := hid hown
    by_cases hlt : i < ps.length
    · obtain ⟨ad, rfl, hbl, hc⟩ := HP.out i hlt
      have hc1 : wr.cell? (ad.add i) = some (.string ⟨ps[i].toArray⟩) := by rw [hbel.cell (p := ad.add i) (by rw [add_block]; exact hbl)]; exact hc
      obtain ⟨v, hv⟩ := filled_at ps i hlt
      have hc2 := hown.cellAt i (by omega)
      rw [hv] at hc2
      have hf2 := hown.frozenAt i
      have HF := hid (filled_set ps i hlt)
      clear hbel hown hv hc hrun
      generalize (⟨ps[i].toArray⟩ : ByteArray) = x at *
      go_wp2
      go_roundw
      case rel => exact ⟨i + 1, by omega, by go_num, HB2.out.setCell (p := ⟨w.heap.size, i, none⟩) (Nat.le_refl _) _, by rw [← HF.out]; exact (HO2.out.stored i _).1⟩
      case measure => simp [RowKit.intOf]; omega
    · have hie : i = ps.length := by omega
      subst hie
      clear hbel hown hrun
      go_wp2
      go_ret
      exact ⟨_, rfl, HB2.out, by have := HO2.out; rw [filled_all] at this; exact this⟩

theorem own_shape {w : World} {base : Nat} {sv : Value} {ps : List (List UInt8)} (h : w.ownsRow base 9 1 sv ps.length (strs ps)) : ∃ p c, sv = .slice p ps.length c ∧ ps.length ≤ c := by
  rcases h.2 with ⟨hv, hz⟩ | ⟨g, cap, cur, e1, _, _, hle, _⟩
  · exact ⟨none, 0, by rw [hv, hz], by omega⟩
  · exact ⟨_, _, e1, hle⟩
end Go.Proofs.YtjaaplcgphlccaaGreatDoor
