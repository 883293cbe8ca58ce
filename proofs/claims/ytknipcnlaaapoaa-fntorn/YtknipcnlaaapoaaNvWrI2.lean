/- The program's NvWrites, where no copy stands, and where the count is spent. -/
import Derived.Test.YtknipcnlaaapoaaNvWrI
namespace Go.Proofs.Ytknipcnlaaapoaa
open Go.RowKit
open Go.Lib (hid)

attribute [local go_sem ↓] buildD_eq storeD_eq loadD_eq

set_option maxRecDepth 20000 in
set_option maxHeartbeats 1000000 in
theorem nvWrites_none (m h : Nat) (hh : h = m + 2) (h1 : 1 ≤ m) (h20 : m ≤ 20) (ws : List Int) (hws : ws.length = 2 * h) (hnb : Numb ws) (hst : (standP (wholeL (ws.take h)) (wholeL (ws.drop h)) (cpC (ws.take h)) (cpC (ws.drop h))).2 = false) (l : List Int) (hl : valsB l m = true) (hll : l.length ≤ 1048576) (a b : Value) (w : World) (ha : RowIn w a ws) (hb : RowIn w b l) :
    Calls Try.prog 15 #[.agg #[.int .i64 m, a], b] w fun e w' => e = .returned (.tuple #[.slice none 0 0, .bool false]) ∧ Below w.heap.size w w' := by
  have HA := hid ha
  have HBV := hid hb
  have CV := hid (fun b W (hW : RowIn W b l) => areValues_calls l hll m b W hW)
  rw [hl] at CV
  have lT : (ws.take h).length = h := by rw [List.length_take]; omega
  have lD : (ws.drop h).length = h := by rw [List.length_drop]; omega
  have CF := hid (fun a W (hW : RowIn W a ws) => formed_calls m ws (by omega) a W hW)
  rw [formB_iff.2 ⟨by omega, by omega, by omega, hnb⟩] at CF
  have CC := hid (fun a W (hW : RowIn W a ws) => copiesOf_calls m h hh h1 h20 ws hws a W hW)
  have CS := hid (fun W => standing_calls (cpK (ws.take h)) (cpK (ws.drop h)) (cpC (ws.take h)) (cpC (ws.drop h)) (padN (ws.take h)) (padN (ws.drop h)) (padN_len _ (by omega) (by omega)) (padN_len _ (by omega) (by omega)) (padN_numb (numb_take hnb h)) (padN_numb (numb_drop hnb h)) (cpC_bd (numb_take hnb h)) (cpC_bd (numb_drop hnb h)) W)
  rw [wholeB_pad, wholeB_pad, hst] at CS
  have hA := copyV_size (ws.take h) (by omega) (by omega)
  have hB := copyV_size (ws.drop h) (by omega) (by omega)
  have o1 : (copyV (ws.take h) ++ copyV (ws.drop h)).size = 44 := by rw [Array.size_append, hA, hB]
  have o2 : (copyV (ws.take h) ++ copyV (ws.drop h)).all (·.oneCell') = true := by rw [Array.all_append, copyV, copyV, nvc_one, nvc_one]; rfl
  have hsd := fun W c' h' => storeD_new W c' _ h' o1 o2
  have hld := fun W => loadD_new W _ o1
  have CS' : Hid (∀ W, Calls Try.prog 19 #[.agg (copyV (ws.take h) ++ copyV (ws.drop h))] W fun e w' => ∃ i, e = .returned (.tuple #[.int .i64 i, .bool false]) ∧ Below W.heap.size W w') := hid (fun W => (CS.out W).mono fun e w' ⟨he, hb⟩ => ⟨_, he, hb⟩)
  generalize copyV (ws.take h) ++ copyV (ws.drop h) = V at *
  obtain ⟨p, c, rfl, hc, _⟩ := ha
  have HW : Hid (Below w.heap.size w (w.alloc (.cells #[.int .i64 m, .slice p ws.length c] 26))) := hid ((Below.refl _ _).alloc (Nat.le_refl _) _)
  clear hst CS hA hB o1 o2 lT lD hws hnb
  go_enter Try.func15, Try.ntmps15
  go_wp2_with (go_at_call 17; refine (CF.out _ _ (HA.out.on HW.out)).mono ?_; rintro e w1 ⟨rfl, hb1⟩; refine Hid.out ?_)
  refine hid ?_
  have k0 := hb1.cell (p := ⟨w.heap.size, 0, none⟩) (by simp)
  have k1 := hb1.cell (p := ⟨w.heap.size, 1, none⟩) (by simp)
  have HB1 := hid (HW.out.trans (hb1.mono HW.out.size))
  clear hb1
  go_wp2_with (first | (go_at_call 32; refine (CV.out _ _ (HBV.out.on HB1.out)).mono ?_; rintro e w5 ⟨rfl, rfl⟩) | (go_at_call 18; refine (CC.out _ _ (HA.out.on HB1.out)).mono ?_; rintro e w2 ⟨rfl, hb2⟩; have HB2 := hid (HB1.out.trans (hb2.mono HB1.out.size)); clear hb2) | (go_at_call 19; refine (CS'.out _).mono ?_; rintro e w3 ⟨i, rfl, hb3⟩; have HB3 := hid ((HB2.out.alloc HB2.out.size (.cells V 47)).trans (hb3.mono (by simp; have := HB2.out.size; omega))); clear hb3))
  go_ret2
  exact ⟨rfl, HB3.out⟩

set_option maxRecDepth 20000 in
set_option maxHeartbeats 2000000 in
theorem nvWrites_max (m h : Nat) (hh : h = m + 2) (h1 : 1 ≤ m) (h20 : m ≤ 20) (ws : List Int) (hws : ws.length = 2 * h) (hnb : Numb ws) (i : Nat) (hi : i = 0 ∨ i = 1) (hst : standP (wholeL (ws.take h)) (wholeL (ws.drop h)) (cpC (ws.take h)) (cpC (ws.drop h)) = ((i : Int), true)) (L : List Int) (hL : L = if i = 0 then ws.take h else ws.drop h) (hmx : cpC L = 1000000000) (l : List Int) (hl : valsB l m = true) (hll : l.length ≤ 1048576) (a b : Value) (w : World) (ha : RowIn w a ws) (hb : RowIn w b l) :
    Calls Try.prog 15 #[.agg #[.int .i64 m, a], b] w fun e w' => e = .returned (.tuple #[.slice none 0 0, .bool false]) ∧ Below w.heap.size w w' := by
  have HA := hid ha
  have HBV := hid hb
  have CV := hid (fun b W (hW : RowIn W b l) => areValues_calls l hll m b W hW)
  rw [hl] at CV
  have lT : (ws.take h).length = h := by rw [List.length_take]; omega
  have lD : (ws.drop h).length = h := by rw [List.length_drop]; omega
  have CF := hid (fun a W (hW : RowIn W a ws) => formed_calls m ws (by omega) a W hW)
  rw [formB_iff.2 ⟨by omega, by omega, by omega, hnb⟩] at CF
  have CC := hid (fun a W (hW : RowIn W a ws) => copiesOf_calls m h hh h1 h20 ws hws a W hW)
  have CS := hid (fun W => standing_calls (cpK (ws.take h)) (cpK (ws.drop h)) (cpC (ws.take h)) (cpC (ws.drop h)) (padN (ws.take h)) (padN (ws.drop h)) (padN_len _ (by omega) (by omega)) (padN_len _ (by omega) (by omega)) (padN_numb (numb_take hnb h)) (padN_numb (numb_drop hnb h)) (cpC_bd (numb_take hnb h)) (cpC_bd (numb_drop hnb h)) W)
  rw [wholeB_pad, wholeB_pad, hst] at CS
  have hA := copyV_size (ws.take h) (by omega) (by omega)
  have hB := copyV_size (ws.drop h) (by omega) (by omega)
  have o1 : (copyV (ws.take h) ++ copyV (ws.drop h)).size = 44 := by rw [Array.size_append, hA, hB]
  have o2 : (copyV (ws.take h) ++ copyV (ws.drop h)).all (·.oneCell') = true := by rw [Array.all_append, copyV, copyV, nvc_one, nvc_one]; rfl
  have hsd := fun W c' h' => storeD_new W c' _ h' o1 o2
  have hld := fun W => loadD_new W _ o1
  have lN : (cpN L).length = m := by
    have : L.length = h := by rw [hL]; split <;> assumption
    unfold cpN; simp; omega
  have hV : (∀ j u, (ints (cpN L))[j]? = some u → (copyV (ws.take h) ++ copyV (ws.drop h))[i * 22 + 1 + j]? = some u) ∧ (copyV (ws.take h) ++ copyV (ws.drop h))[i * 22 + 21]? = some (.int .i64 (cpC L)) := by
    rcases hi with rfl | rfl
    · rw [if_pos rfl] at hL
      subst hL
      obtain ⟨c1, c2⟩ := copy_cells (ws.take h) (by omega) (by omega)
      refine ⟨fun j u hj => ?_, ?_⟩
      · have hjl : j < m := by rw [← lN, ← ints_len]; exact (List.getElem?_eq_some_iff.1 hj).1
        rw [show 0 * 22 + 1 + j = 1 + j by omega, Array.getElem?_append_left (by omega)]
        exact c1 j u hj
      · rw [show 0 * 22 + 21 = 21 by omega, Array.getElem?_append_left (by omega)]
        exact c2
    · rw [if_neg (by decide)] at hL
      subst hL
      obtain ⟨c1, c2⟩ := copy_cells (ws.drop h) (by omega) (by omega)
      refine ⟨fun j u hj => ?_, ?_⟩
      · rw [Array.getElem?_append_right (by omega), hA, show 1 * 22 + 1 + j - 22 = 1 + j by omega]
        exact c1 j u hj
      · rw [Array.getElem?_append_right (by omega), hA, show 1 * 22 + 21 - 22 = 21 by omega]
        exact c2
  have CS' : Hid (∀ W, Calls Try.prog 19 #[.agg (copyV (ws.take h) ++ copyV (ws.drop h))] W fun e w' => e = .returned (.tuple #[.int .i64 i, .bool true]) ∧ Below W.heap.size W w') := hid (fun W => CS.out W)
  generalize copyV (ws.take h) ++ copyV (ws.drop h) = V at *
  have HV := hid hV
  have LN := hid lN
  obtain ⟨p, c, rfl, hc, _⟩ := ha
  have HW : Hid (Below w.heap.size w (w.alloc (.cells #[.int .i64 m, .slice p ws.length c] 26))) := hid ((Below.refl _ _).alloc (Nat.le_refl _) _)
  have b1 : (0 : Int) ≤ (m : Int) := by omega
  have b2 : (m : Int) ≤ (20 : Int) := by omega
  clear hst CS hA hB o1 o2 lT lD hws hnb hV lN hL
  go_enter Try.func15, Try.ntmps15
  go_wp2_with (go_at_call 17; refine (CF.out _ _ (HA.out.on HW.out)).mono ?_; rintro e w1 ⟨rfl, hb1⟩; refine Hid.out ?_)
  refine hid ?_
  have k0 := hb1.cell (p := ⟨w.heap.size, 0, none⟩) (by simp)
  have k1 := hb1.cell (p := ⟨w.heap.size, 1, none⟩) (by simp)
  have HV1 : Hid (w1.heap[w.heap.size]? = some (.cells #[.int .i64 m, .slice p ws.length c] 26)) := hid ((hb1.block _ (by simp)).trans (heap_alloc_new _ _))
  have HB1 := hid (HW.out.trans (hb1.mono HW.out.size))
  have hz1 := hb1.size
  simp only [World.size_alloc] at hz1
  clear hb1
  go_wp2_with (first | (go_at_call 32; refine (CV.out _ _ (HBV.out.on HB1.out)).mono ?_; rintro e w5 ⟨rfl, rfl⟩) | (go_at_call 18; refine (CC.out _ _ (HA.out.on HB1.out)).mono ?_; rintro e w2 ⟨rfl, hb2⟩; refine Hid.out ?_))
  refine hid ?_
  have hz2 := hb2.size
  have HV2 := hid ((hb2.block w.heap.size (by omega)).trans HV1.out)
  have HB2 := hid (HB1.out.trans (hb2.mono HB1.out.size))
  clear hb2 k0 k1
  go_wp2_with (go_at_call 19; refine (CS'.out _).mono ?_; rintro e w3 ⟨rfl, hb3⟩; refine Hid.out ?_)
  refine hid ?_
  have hz3 := hb3.size
  simp only [World.size_alloc] at hz3
  have HV3 := hid ((hb3.block w.heap.size (by simp; omega)).trans ((Below.heap_alloc w2 _ _ (by omega)).trans HV2.out))
  have HC3 : Hid (w3.heap[w2.heap.size]? = some (.cells V 47)) := hid ((hb3.block _ (by simp)).trans (heap_alloc_new _ _))
  have HB3 := hid ((HB2.out.alloc HB2.out.size (.cells V 47)).trans (hb3.mono (by simp; have := HB2.out.size; omega)))
  clear hb3
  have r1 : w3.cell? ⟨w2.heap.size, i * 22 + 21, none⟩ = some (.int .i64 1000000000) := by
    rw [cell_of_row _ _ _ _ _ _ HC3.out, ← hmx]; exact HV.out.2
  clear hmx
  rcases hi with rfl | rfl
  all_goals
    simp only [Nat.zero_mul, Nat.one_mul, Nat.zero_add, Nat.reduceAdd] at r1
    go_wp2
    go_ret2
    exact ⟨rfl, HB3.out⟩

end Go.Proofs.Ytknipcnlaaapoaa
