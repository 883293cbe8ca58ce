/- The specification's rising list of texts. -/
import Derived.Test.YtjaaplcgphlccaaGreatDoorPackRelI
import Derived.Test.YtjaaplcgphlccaaGreatDoorSpecStands
import Derived.Sort.Walk0
namespace Go.Proofs.YtjaaplcgphlccaaGreatDoor
open Go.RowKit
open Go.Lib (hid)

theorem more_yes {x y : ByteArray} (h : y.data.toList < x.data.toList) : (Op.bytesLess x.toList y.toList || x.toList == y.toList) = false := by
  rw [ByteArray.toList_eq, ByteArray.toList_eq, bytesLess_eq, Bool.or_eq_false_iff]
  refine ⟨decide_eq_false (fun e => List.lt_irrefl _ (List.lt_trans h e)), ?_⟩
  rw [beq_eq_false_iff_ne]
  intro e
  rw [e] at h
  exact List.lt_irrefl _ h

theorem more_no {x y : ByteArray} (h : ¬ y.data.toList < x.data.toList) : (Op.bytesLess x.toList y.toList || x.toList == y.toList) = true := by
  rw [ByteArray.toList_eq, ByteArray.toList_eq, bytesLess_eq, Bool.or_eq_true]
  by_cases he : x.data.toList = y.data.toList
  · exact Or.inr (by rw [he]; simp)
  · refine Or.inl (decide_eq_true ?_)
    have hle : x.data.toList ≤ y.data.toList := List.not_lt.1 h
    rcases Classical.em (x.data.toList < y.data.toList) with h2 | h2
    · exact h2
    · exact absurd (List.le_antisymm hle (List.not_lt.1 h2)) he

def moved (o : List (List UInt8)) (k : Nat) (y : List UInt8) : List (List UInt8) := o.take k ++ y :: o.drop k

theorem moved_len (o : List (List UInt8)) (k : Nat) (y : List UInt8) (h : k ≤ o.length) : (moved o k y).length = o.length + 1 := by
  simp [moved]; omega

theorem moved_at (o : List (List UInt8)) (k : Nat) (y : List UInt8) (h : k ≤ o.length) : (moved o k y)[k]? = some y := by
  unfold moved
  rw [List.getElem?_append_right (by rw [List.length_take]; omega), List.length_take, show k - min k o.length = 0 by omega]
  rfl

theorem moved_low (o : List (List UInt8)) (k j : Nat) (y : List UInt8) (hk : k ≤ o.length) (h : j < k) : (moved o k y)[j]? = some (o[j]'(by omega)) := by
  unfold moved
  rw [List.getElem?_append_left (by rw [List.length_take]; omega), List.getElem?_take, if_pos h, List.getElem?_eq_getElem (by omega)]

theorem moved_set (o : List (List UInt8)) (k : Nat) (y x : List UInt8) (h : k ≤ o.length) : (moved o k y).set k x = moved o k x := by
  unfold moved
  rw [List.set_append_right _ _ (by rw [List.length_take]; omega), List.length_take, show k - min k o.length = 0 by omega, List.set_cons_zero]

theorem moved_step (o : List (List UInt8)) (k : Nat) (h0 : 0 < k) (h : k ≤ o.length) : moved o k (o[k - 1]'(by omega)) = moved o (k - 1) (o[k - 1]'(by omega)) := by
  unfold moved
  obtain ⟨m, rfl⟩ : ∃ m, k = m + 1 := ⟨k - 1, by omega⟩
  simp only [Nat.add_sub_cancel]
  rw [List.take_succ_eq_append_getElem (by omega), List.append_assoc, List.drop_eq_getElem_cons (i := m) (by omega)]
  rfl

theorem strs_set (ps : List (List UInt8)) (j : Nat) (x : List UInt8) : (strs ps).set j (.string ⟨x.toArray⟩) = strs (ps.set j x) := by
  unfold strs
  rw [List.map_set]

theorem sr_strs_at (ps : List (List UInt8)) (j : Nat) : (strs ps)[j]? = (ps[j]?).map fun x => .string ⟨x.toArray⟩ := by
  unfold strs
  rw [List.getElem?_map]

theorem own_shape2 {w : World} {base n : Nat} {sv : Value} {xs : List Value} (h : w.ownsRow base 9 1 sv n xs) : ∃ p c, sv = .slice p n c ∧ n ≤ c := by
  rcases h.2 with ⟨hv, hz⟩ | ⟨g, cap, cur, e1, _, _, hle, _⟩
  · exact ⟨none, 0, by rw [hv, hz], by omega⟩
  · exact ⟨_, _, e1, hle⟩

theorem own_block {w : World} {base n : Nat} {sv : Value} {xs : List Value} (h : w.ownsRow base 9 1 sv n xs) (hn : 0 < n) : ∃ g c, sv = .slice (some ⟨g, 0, none⟩) n c ∧ base ≤ g ∧ n ≤ c := by
  rcases h.2 with ⟨_, hz⟩ | ⟨g, cap, cur, e1, hb, _, hle, _⟩
  · omega
  · exact ⟨g, cap, e1, hb, hle⟩

/-- Where the outer loop stands. -/
structure Risen (w : World) (ps : List (List UInt8)) (i : Nat) (ov : Value) (o : List (List UInt8)) (wr : World) : Prop where
  below : Below w.heap.size w wr
  own : wr.ownsRow w.heap.size 9 1 ov o.length (strs o)
  rises : Rising o
  mem : ∀ x, x ∈ o ↔ x ∈ ps.take i
  few : o.length ≤ i

set_option maxRecDepth 20000 in
set_option maxHeartbeats 2000000 in
theorem rising_calls (ps : List (List UInt8)) (hn : ps.length ≤ 1000000) (a : Value) (w : World) (ha : TextsAt w a ps) :
    Calls Tryz.prog 25 #[a] w fun e w' => ∃ sv qs, e = .returned sv ∧ Below w.heap.size w w' ∧ w'.ownsRow w.heap.size 9 1 sv qs.length (strs qs) ∧ Rising qs ∧ (∀ x, x ∈ qs ↔ x ∈ ps) ∧ qs.length ≤ ps.length := by
  obtain ⟨p, c, rfl, hp⟩ := ha
  have HP := hid hp
  clear hp
  go_enter Tryz.func25, Tryz.ntmps25
  go_wp2
  go_loopw [3, 4] (fun ov iv wr => ∃ i : Nat, ∃ o, i ≤ ps.length ∧ iv = .int .i64 i ∧ Risen w ps i ov o wr) (fun _ iv _ => ps.length - (RowKit.intOf iv).toNat)
  case atStart => exact ⟨0, [], Nat.zero_le _, rfl, ⟨(Below.refl _ _).alloc (Nat.le_refl _) _, none_own w, List.Pairwise.nil, by simp, Nat.le_refl _⟩⟩
  case round =>
    obtain ⟨i, o, hi, rfl, hrel⟩ := hrel
    obtain ⟨hbel, hown, hris, hmem, hfew⟩ := hrel
    have HB := hid hbel
    have HO := hid hown
    have HR := hid hris
    have HM := hid hmem
    have hszr := hbel.size
    by_cases hlt : i < ps.length
    · have hne : ps ≠ [] := fun h => by rw [h] at hlt; cases hlt
      obtain ⟨g, rfl, hk⟩ := HP.out hne
      have hgl := hk.1
      have hc1 := (hk.on hbel).2 i hlt
      have hcw := hk.2 i hlt
      obtain ⟨x, hx⟩ : ∃ x : ByteArray, x = ⟨ps[i].toArray⟩ := ⟨_, rfl⟩
      rw [← hx] at hc1 hcw
      have HCW := hid hcw
      have hxl : x.data.toList = ps[i] := by rw [hx]
      have HX := hid hxl
      clear hcw
      have HTX := hid (texts_of hown)
      clear hx hxl hk hbel hown hris hmem
      have htake : ∀ z, z ∈ ps.take (i + 1) ↔ z ∈ ps.take i ∨ z = x.data.toList := fun z => by
        rw [List.take_succ_eq_append_getElem hlt, List.mem_append, List.mem_singleton, HX.out]
      have HTK := hid htake
      clear htake
      by_cases hin : x.data.toList ∈ o
      · have hd : decide (x.data.toList ∈ o) = true := decide_eq_true hin
        have HC := hid (fun a w h => has_calls o (by omega) a x w h)
        rw [hd] at HC
        have HI := hid hin
        clear hin hd
        go_wp2_with (go_at_call 22; refine (HC.out _ _ HTX.out).mono ?_; rintro e w5 ⟨rfl, hb5⟩; refine Hid.out ?_)
        refine hid ?_
        have HB5 := hid (HB.out.trans (hb5.mono hszr))
        have HO5 := hid (own_below HO.out hb5)
        clear hb5
        go_wp2
        go_roundw
        case rel =>
          refine ⟨i + 1, o, by omega, by go_num, HB5.out, HO5.out, HR.out, fun z => ?_, by omega⟩
          rw [HTK.out, ← HM.out]
          constructor
          · exact Or.inl
          · rintro (h | h)
            · exact h
            · rw [h]; exact HI.out
        case measure => simp [RowKit.intOf]; omega
      · have hd : decide (x.data.toList ∈ o) = false := decide_eq_false hin
        have HC := hid (fun a w h => has_calls o (by omega) a x w h)
        rw [hd] at HC
        have HI := hid hin
        clear hin hd
        go_wp2_with (go_at_call 22; refine (HC.out _ _ HTX.out).mono ?_; rintro e w5 ⟨rfl, hb5⟩; refine Hid.out ?_)
        refine hid ?_
        have hz5 := hb5.size
        have HB5 := hid (HB.out.trans (hb5.mono hszr))
        have hown5 := own_below HO.out hb5
        have hc5 : w5.cell? ⟨g, i, none⟩ = some (.string x) := by rw [hb5.cell (p := ⟨g, i, none⟩) (by simp; omega)]; exact hc1
        clear hb5 hc1
        obtain ⟨q, cq, rfl, hcq⟩ := own_shape2 hown5
        go_wp2_with (at_builtin; refine wp_append_str rfl _ _ rfl w.heap.size _ _ _ rfl (hown5.alloc _) ⟨w5.heap.size, 0, none⟩ 1 x rfl ?c1 ?c2 ?c3 ?_)
        case c1 => simp [go_sem]
        case c2 => omega
        case c3 => simp; omega
        intro out' w6 hown6 hgrow _
        have hbel6 : Below w.heap.size w w6 := ((HB5.out.alloc (by omega) _).grown hgrow (by simp; omega) (fun k hk => (hown5.lt k hk).1))
        have hr6 : w6.ownsRow w.heap.size 9 1 out' (o.length + 1) (strs (moved o o.length x.data.toList)) := by
          have e : strs o ++ [Value.string x] = strs (moved o o.length x.data.toList) := by
            unfold moved
            rw [List.take_of_length_le (Nat.le_refl _), List.drop_of_length_le (Nat.le_refl _)]
            simp [strs]
          rw [← e]
          exact hown6
        obtain ⟨g6, c6, rfl, hbg6, hcp6⟩ := own_block hr6 (by omega)
        have HB6 := hid hbel6
        have HR6 := hid hr6
        clear hown6 hgrow hown5 hbel6 hr6 hc5
        go_wp2
        go_loopw [5] (fun kv wr2 => ∃ k : Nat, ∃ y, k ≤ o.length ∧ kv = .int .i64 k ∧ Below w.heap.size w wr2 ∧ Hid (wr2.ownsRow w.heap.size 9 1 (.slice (some ⟨g6, 0, none⟩) (o.length + 1) c6) (o.length + 1) (strs (moved o k y)) ∧ ∀ z ∈ o.drop k, x.data.toList < z)) (fun kv _ => (RowKit.intOf kv).toNat)
        case atStart => exact ⟨o.length, _, Nat.le_refl _, rfl, HB6.out, hid ⟨HR6.out, by rw [List.drop_of_length_le (Nat.le_refl _)]; intro z hz; cases hz⟩⟩
        case round =>
          obtain ⟨k, y, hk, rfl, hbk, HK⟩ := hrel
          have hcx : wr.cell? ⟨g, i, none⟩ = some (.string x) := (hbk.cell (p := ⟨g, i, none⟩) hgl).trans HCW.out
          have hck := HK.out.1.cellAt k (by omega)
          rw [sr_strs_at, moved_at o k y hk] at hck
          have hfk := HK.out.1.frozenAt k
          have HBK := hid hbk
          -- behind the inner loop: the text is put in at k
          have hdone : ∀ (nq : Nat) (h2 : ∀ z ∈ o.take k, z < x.data.toList), (∃ i_1 o_1, i_1 ≤ ps.length ∧ Value.int .i64 ((i : Int) + 1) = .int .i64 i_1 ∧ Risen w ps i_1 (.slice (some ⟨g6, 0, none⟩) (o.length + 1) c6) o_1 ((wr.drewN nq).setCell ⟨g6, k, none⟩ (.string x))) := by
            intro nq h2
            have hk1 : (wr.drewN nq).ownsRow w.heap.size 9 1 (.slice (some ⟨g6, 0, none⟩) (o.length + 1) c6) (o.length + 1) (strs (moved o k y)) := HK.out.1
            have hst := (hk1.stored k (.string x)).1
            rw [show (Value.string x) = .string ⟨x.data.toList.toArray⟩ from rfl, strs_set, moved_set o k y _ hk] at hst
            have hml := moved_len o k x.data.toList hk
            refine ⟨i + 1, moved o k x.data.toList, by omega, by go_num, (drewN_below HBK.out nq).setCell (p := ⟨g6, k, none⟩) hbg6 _, by rw [hml]; exact hst, rising_put HR.out HK.out.2 h2, fun z => ?_, by rw [hml]; omega⟩
            rw [HTK.out, ← HM.out]
            unfold moved
            rw [List.mem_append, List.mem_cons]
            constructor
            · rintro (h | h | h)
              · exact Or.inl (List.mem_of_mem_take h)
              · exact Or.inr h
              · exact Or.inl (List.mem_of_mem_drop h)
            · rintro (h | h)
              · rw [← List.take_append_drop k o, List.mem_append] at h
                rcases h with h | h
                · exact Or.inl h
                · exact Or.inr (Or.inr h)
              · exact Or.inr (Or.inl h)
          have HD := hid hdone
          clear hbk hdone
          by_cases hk0 : k = 0
          · have HK0 := hid hk0
            have hg0 : decide ((0 : Int) < (k : Int)) = false := decide_eq_false (by omega)
            have hg3 : decide (0 < k) = false := decide_eq_false (by omega)
            have hg4 : ¬ 0 < k := by omega
            clear hk0
            go_wp2
            go_quiet (fail)
            go_wp2
            go_roundw
            case rel => exact HD.out _ (fun z hz => by rw [HK0.out] at hz; simp at hz)
            case measure => simp [RowKit.intOf]; omega
          · obtain ⟨m, rfl⟩ : ∃ m, k = m + 1 := ⟨k - 1, by omega⟩
            have hcm := HK.out.1.cellAt m (by omega)
            rw [sr_strs_at, moved_low o (m + 1) m y hk (by omega)] at hcm
            obtain ⟨zb, hzb⟩ : ∃ zb : ByteArray, zb = ⟨o[m].toArray⟩ := ⟨_, rfl⟩
            simp only [Option.map_some] at hcm hck
            rw [← hzb] at hcm
            have hzl : zb.data.toList = o[m] := by rw [hzb]
            have HZ := hid hzl
            clear hzb
            by_cases hless : x.data.toList < zb.data.toList
            · have hmb : (Op.bytesLess zb.toList x.toList || zb.toList == x.toList) = false := more_yes hless
              have HLS := hid hless
              have hg1 : decide (((m : Int) + 1) > 0) = true := decide_eq_true (by omega)
              clear hless hzl
              go_wp2
              go_quiet (fail)
              go_wp2
              go_roundw
              case rel =>
                refine ⟨m, o[m], by omega, rfl, (drewN_below HBK.out _).setCell (p := ⟨g6, m + 1, none⟩) hbg6 _, hid ⟨?_, ?_⟩⟩
                · have hk1 : ∀ nq, (wr.drewN nq).ownsRow w.heap.size 9 1 (.slice (some ⟨g6, 0, none⟩) (o.length + 1) c6) (o.length + 1) (strs (moved o (m + 1) y)) := fun _ => HK.out.1
                  have hms := moved_step o (m + 1) (by omega) hk
                  simp only [Nat.add_sub_cancel] at hms
                  have hst : ∀ nq, ((wr.drewN nq).setCell ⟨g6, m + 1, none⟩ (.string zb)).ownsRow w.heap.size 9 1 (.slice (some ⟨g6, 0, none⟩) (o.length + 1) c6) (o.length + 1) (strs (moved o m o[m])) := fun nq => by
                    have h := ((hk1 nq).stored (m + 1) (.string zb)).1
                    rw [show (Value.string zb) = .string ⟨zb.data.toList.toArray⟩ from rfl, strs_set, moved_set o (m + 1) y _ hk, HZ.out, hms] at h
                    rw [show (Value.string zb) = .string ⟨zb.data.toList.toArray⟩ from rfl, HZ.out]
                    exact h
                  exact hst _
                · intro z hz
                  rw [List.drop_eq_getElem_cons (i := m) (by omega)] at hz
                  rcases List.mem_cons.1 hz with h | h
                  · rw [h, ← HZ.out]; exact HLS.out
                  · exact HK.out.2 z h
              case measure => simp [RowKit.intOf]
            · have hmb : (Op.bytesLess zb.toList x.toList || zb.toList == x.toList) = true := more_no hless
              have hbelow : ∀ z ∈ o.take (m + 1), z < x.data.toList := rising_below HR.out hk (fun _ => by
                show o[m] < x.data.toList
                rw [← hzl]
                have hle : zb.data.toList ≤ x.data.toList := List.not_lt.1 hless
                rcases Classical.em (zb.data.toList < x.data.toList) with h | h
                · exact h
                · exfalso
                  apply HI.out
                  rw [← List.le_antisymm hle (List.not_lt.1 h), hzl]
                  exact List.getElem_mem _)
              have HBL := hid hbelow
              have hg1 : decide (((m : Int) + 1) > 0) = true := decide_eq_true (by omega)
              clear hless hzl hbelow
              go_wp2
              go_quiet (fail)
              go_wp2
              go_roundw
              case rel => exact HD.out _ HBL.out
              case measure => simp [RowKit.intOf]; omega
    · have hie : i = ps.length := by omega
      subst hie
      clear hbel hown hris hmem
      go_wp2
      go_ret
      have h1 := HM.out
      rw [List.take_of_length_le (Nat.le_refl _)] at h1
      exact ⟨_, o, rfl, HB.out, HO.out, HR.out, h1, hfew⟩
end Go.Proofs.YtjaaplcgphlccaaGreatDoor
