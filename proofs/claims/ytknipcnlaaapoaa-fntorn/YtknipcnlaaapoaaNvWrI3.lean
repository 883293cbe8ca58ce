/- The program's NvWrites, where it tells the writes. -/
import Derived.Test.YtknipcnlaaapoaaNvWrI2
namespace Go.Proofs.Ytknipcnlaaapoaa
open Go.RowKit
open Go.Lib (hid)

attribute [local go_sem ↓] buildD_eq storeD_eq loadD_eq

theorem own_lower_w {w : World} {base base' size n : Nat} {e : TypeId} {v : Value} {xs : List Value} (h : w.ownsRow base e size v n xs) (hb : base' ≤ base) : w.ownsRow base' e size v n xs :=
  ⟨h.1, h.2.imp id fun ⟨g, cap, cur, a1, a2, a3⟩ => ⟨g, cap, cur, a1, Nat.le_trans hb a2, a3⟩⟩

set_option maxRecDepth 20000 in
set_option maxHeartbeats 2000000 in
theorem nvWrites_yes (m h : Nat) (hh : h = m + 2) (h1 : 1 ≤ m) (h20 : m ≤ 20) (ws : List Int) (hws : ws.length = 2 * h) (hnb : Numb ws) (i : Nat) (hi : i = 0 ∨ i = 1) (hst : standP (wholeL (ws.take h)) (wholeL (ws.drop h)) (cpC (ws.take h)) (cpC (ws.drop h)) = ((i : Int), true)) (L : List Int) (hL : L = if i = 0 then ws.take h else ws.drop h) (hmx : cpC L ≠ 1000000000) (hbd : 0 ≤ cpC L ∧ cpC L ≤ 1000000000) (l : List Int) (hlm : l.length = m) (hln : Numb l) (a b : Value) (w : World) (ha : RowIn w a ws) (hb : RowIn w b l) :
    Calls Try.prog 15 #[.agg #[.int .i64 m, a], b] w fun e w' => ∃ sv, e = .returned (.tuple #[sv, .bool true]) ∧ Below w.heap.size w w' ∧ w'.ownsRow w.heap.size 61 2 sv (l.length + 3) (ints (putW (if i = 0 then h else 0) l (cpC L + 1))) := by
  have h22 : h ≤ 22 := by omega
  have hd22 : (h : Int) ≤ 22 := by omega
  have hd0 : (0 : Int) ≤ (h : Int) := by omega
  have hl20 : l.length ≤ 20 := by omega
  have HA := hid ha
  have HBV := hid hb
  have hl : valsB l m = true := valsB_iff.2 ⟨by omega, by omega, by omega, hln⟩
  have hll : l.length ≤ 1048576 := by omega
  have CV := hid (fun b W (hW : RowIn W b l) => areValues_calls l hll m b W hW)
  rw [hl] at CV
  have CWO := hid (fun W => words_nat m h hh h1 h20 W)
  have CWI := hid (fun b W (hW : RowIn W b l) => copyWith_calls l (by omega) hln (cpC L + 1) (by omega) b W hW)
  have lT : (ws.take h).length = h := by rw [List.length_take]; omega
  have lD : (ws.drop h).length = h := by rw [List.length_drop]; omega
  have CF := hid (fun a W (hW : RowIn W a ws) => formed_calls m ws (by omega) a W hW)
  rw [formB_iff.2 ⟨by omega, by omega, by omega, hnb⟩] at CF
  have CC := hid (fun a W (hW : RowIn W a ws) => copiesOf_calls m h hh h1 h20 ws hws a W hW)
  have CS := hid (fun W => standing_calls (cpK (ws.take h)) (cpK (ws.drop h)) (cpC (ws.take h)) (cpC (ws.drop h)) (padN (ws.take h)) (padN (ws.drop h)) (padN_len _ (by omega) (by omega)) (padN_len _ (by omega) (by omega)) (padN_numb (numb_take hnb h)) (padN_numb (numb_drop hnb h)) (cpC_bd (numb_take hnb h)) (cpC_bd (numb_drop hnb h)) W)
  rw [wholeB_pad, wholeB_pad, hst] at CS
  have hA := copyV_size (ws.take h) (by omega) (by omega)
  have hB := copyV_size (ws.drop h) (by omega) (by omega)
  have o1 : (copyV (ws.take h) ++ copyV (ws.drop h)).size = 44 := by rw [Array.size_append, hA, hB]
  have o2 : (copyV (ws.take h) ++ copyV (ws.drop h)).all (·.oneCell') = true := by rw [Array.all_append, copyV, copyV, nvc_one, nvc_one]; rfl
  have hsd := fun W c' h' => storeD_new W c' _ h' o1 o2
  have hld := fun W => loadD_new W _ o1
  have lN : (cpN L).length = m := by
    have : L.length = h := by rw [hL]; split <;> assumption
    unfold cpN; simp; omega
  have hV : (∀ j u, (ints (cpN L))[j]? = some u → (copyV (ws.take h) ++ copyV (ws.drop h))[i * 22 + 1 + j]? = some u) ∧ (copyV (ws.take h) ++ copyV (ws.drop h))[i * 22 + 21]? = some (.int .i64 (cpC L)) := by
    rcases hi with rfl | rfl
    · rw [if_pos rfl] at hL
      subst hL
      obtain ⟨c1, c2⟩ := copy_cells (ws.take h) (by omega) (by omega)
      refine ⟨fun j u hj => ?_, ?_⟩
      · have hjl : j < m := by rw [← lN, ← ints_len]; exact (List.getElem?_eq_some_iff.1 hj).1
        rw [show 0 * 22 + 1 + j = 1 + j by omega, Array.getElem?_append_left (by omega)]
        exact c1 j u hj
      · rw [show 0 * 22 + 21 = 21 by omega, Array.getElem?_append_left (by omega)]
        exact c2
    · rw [if_neg (by decide)] at hL
      subst hL
      obtain ⟨c1, c2⟩ := copy_cells (ws.drop h) (by omega) (by omega)
      refine ⟨fun j u hj => ?_, ?_⟩
      · rw [Array.getElem?_append_right (by omega), hA, show 1 * 22 + 1 + j - 22 = 1 + j by omega]
        exact c1 j u hj
      · rw [Array.getElem?_append_right (by omega), hA, show 1 * 22 + 21 - 22 = 21 by omega]
        exact c2
  have CS' : Hid (∀ W, Calls Try.prog 19 #[.agg (copyV (ws.take h) ++ copyV (ws.drop h))] W fun e w' => e = .returned (.tuple #[.int .i64 i, .bool true]) ∧ Below W.heap.size W w') := hid (fun W => CS.out W)
  generalize copyV (ws.take h) ++ copyV (ws.drop h) = V at *
  have HV := hid hV
  have LN := hid lN
  obtain ⟨p, c, rfl, hc, _⟩ := ha
  have HW : Hid (Below w.heap.size w (w.alloc (.cells #[.int .i64 m, .slice p ws.length c] 26))) := hid ((Below.refl _ _).alloc (Nat.le_refl _) _)
  have b1 : (0 : Int) ≤ (m : Int) := by omega
  have b2 : (m : Int) ≤ (20 : Int) := by omega
  clear hst CS hA hB o1 o2 lT lD hws hnb hV lN hL
  generalize cpC L = cnt at *
  go_enter Try.func15, Try.ntmps15
  go_wp2_with (go_at_call 17; refine (CF.out _ _ (HA.out.on HW.out)).mono ?_; rintro e w1 ⟨rfl, hb1⟩; refine Hid.out ?_)
  refine hid ?_
  have k0 := hb1.cell (p := ⟨w.heap.size, 0, none⟩) (by simp)
  have k1 := hb1.cell (p := ⟨w.heap.size, 1, none⟩) (by simp)
  have HV1 : Hid (w1.heap[w.heap.size]? = some (.cells #[.int .i64 m, .slice p ws.length c] 26)) := hid ((hb1.block _ (by simp)).trans (heap_alloc_new _ _))
  have HB1 := hid (HW.out.trans (hb1.mono HW.out.size))
  have hz1 := hb1.size
  simp only [World.size_alloc] at hz1
  clear hb1
  go_wp2_with (first | (go_at_call 32; refine (CV.out _ _ (HBV.out.on HB1.out)).mono ?_; rintro e w5 ⟨rfl, rfl⟩) | (go_at_call 18; refine (CC.out _ _ (HA.out.on HB1.out)).mono ?_; rintro e w2 ⟨rfl, hb2⟩; refine Hid.out ?_))
  refine hid ?_
  have hz2 := hb2.size
  have HV2 := hid ((hb2.block w.heap.size (by omega)).trans HV1.out)
  have HB2 := hid (HB1.out.trans (hb2.mono HB1.out.size))
  clear hb2 k0 k1
  go_wp2_with (go_at_call 19; refine (CS'.out _).mono ?_; rintro e w3 ⟨rfl, hb3⟩; refine Hid.out ?_)
  refine hid ?_
  have hz3 := hb3.size
  simp only [World.size_alloc] at hz3
  have HV3 := hid ((hb3.block w.heap.size (by simp; omega)).trans ((Below.heap_alloc w2 _ _ (by omega)).trans HV2.out))
  have HC3 : Hid (w3.heap[w2.heap.size]? = some (.cells V 47)) := hid ((hb3.block _ (by simp)).trans (heap_alloc_new _ _))
  have HB3 := hid ((HB2.out.alloc HB2.out.size (.cells V 47)).trans (hb3.mono (by simp; have := HB2.out.size; omega)))
  clear hb3
  have hmf : ∀ (fn : Fn) (first cap : Array Value) (w : World), (Instr.makeFunc fn first cap).run Try.prog w = .ok (.func fn first cap) w := fun _ _ _ _ => rfl
  obtain ⟨r0, _⟩ := var_cells HV3.out
  have r1 : w3.cell? ⟨w2.heap.size, i * 22 + 21, none⟩ = some (.int .i64 cnt) := by
    rw [cell_of_row _ _ _ _ _ _ HC3.out]; exact HV.out.2
  have b4 : (cnt == 1000000000) = false := by simpa using hmx
  have b5 : IntKind.i64.wrap (cnt + 1) = cnt + 1 := by rw [IntKind.wrap_i64]; omega
  subst hlm
  have CTL := hid (fun start (hs : start ≤ 22) w0 W base bw h1 h2 h3 h4 => tell_wrote l hl20 start hs (cnt + 1) w0 W base bw h1 h2 h3 h4)
  have HP3 := hid (HBV.out.on HB3.out)
  have k0 : ∀ W : World, Below w3.heap.size w3 W → W.cell? ⟨w.heap.size, 0, none⟩ = some (.int .i64 l.length) := fun W hW => (hW.cell (p := ⟨w.heap.size, 0, none⟩) (by show w.heap.size < _; omega)).trans r0
  have k1 : ∀ W : World, Below w3.heap.size w3 W → W.cell? ⟨w2.heap.size, i * 22 + 21, none⟩ = some (.int .i64 cnt) := fun W hW => (hW.cell (p := ⟨w2.heap.size, i * 22 + 21, none⟩) (by show w2.heap.size < _; omega)).trans r1
  have CW3 := hid (fun W (hW : Below w3.heap.size w3 W) => CWI.out b W (HP3.out.on hW))
  have HWV : Hid (Below w3.heap.size w3 (w3.alloc (.cells #[.slice none 0 0] 39))) := hid ((Below.refl _ _).alloc (Nat.le_refl _) _)
  have HCV : Hid ((w3.alloc (.cells #[.slice none 0 0] 39)).heap[w3.heap.size]? = some (.cells #[.slice none 0 0] 39)) := hid (heap_alloc_new _ _)
  have HLT : Hid (w3.heap.size < (w3.alloc (.cells #[.slice none 0 0] 39)).heap.size) := hid (by simp)
  clear hmx hbd hl hll hln hh h1 h20
  rcases hi with rfl | rfl
  · simp only [Nat.zero_mul, Nat.zero_add] at r1 k1
    go_wp2_with (go_at_call 33; refine (CWO.out _).mono ?_; rintro e w5 ⟨rfl, e5⟩; rw [e5]; clear e5 w5)
    go_region_held3 (fun w' => Below w3.heap.size w3 w') (first | with_reducible assumption | exact Below.drew HWV.out | exact below_step (by assumption) (Nat.le_refl _) (by assumption)) ((first | (go_at_call 34; refine (CW3.out _ (by assumption)).mono ?_; rintro e w6 ⟨rfl, hb6⟩) | (go_at_call 35; refine (CTL.out h (h22) w3 _ w3.heap.size w3.heap.size (Nat.le_refl _) (Nat.le_trans (Nat.le_of_lt HLT.out) hb6.size) ((hb6.block _ HLT.out).trans HCV.out) (by assumption)).mono ?_; rintro e w7 ⟨rfl, v7, ho7, hc7, hb7⟩; obtain ⟨p7, c7, rfl⟩ := own_slice ho7; have q0 := (cell_of_row w7 w3.heap.size 0 _ _ _ hc7).trans (show (#[Value.slice p7 (l.length + 3) c7] : Array Value)[0]? = some (.slice p7 (l.length + 3) c7) from rfl))))
    all_goals
      rename_i hS
      have HO := hid ho7
      have HB7 := hid hb7
      clear hS ho7 hc7 hb7 hb6
      go_wp2
      go_ret2
      refine ⟨.slice p7 (l.length + 3) c7, rfl, HB3.out.trans (HB7.out.mono HB3.out.size), ?_⟩
      exact own_lower_w HO.out HB3.out.size
  · simp only [Nat.one_mul] at r1 k1
    go_wp2_with (go_at_call 33; refine (CWO.out _).mono ?_; rintro e w5 ⟨rfl, e5⟩; rw [e5]; clear e5 w5)
    go_region_held3 (fun w' => Below w3.heap.size w3 w') (first | with_reducible assumption | exact Below.drew HWV.out | exact below_step (by assumption) (Nat.le_refl _) (by assumption)) ((first | (go_at_call 34; refine (CW3.out _ (by assumption)).mono ?_; rintro e w6 ⟨rfl, hb6⟩) | (go_at_call 35; refine (CTL.out 0 (Nat.zero_le _) w3 _ w3.heap.size w3.heap.size (Nat.le_refl _) (Nat.le_trans (Nat.le_of_lt HLT.out) hb6.size) ((hb6.block _ HLT.out).trans HCV.out) (by assumption)).mono ?_; rintro e w7 ⟨rfl, v7, ho7, hc7, hb7⟩; obtain ⟨p7, c7, rfl⟩ := own_slice ho7; have q0 := (cell_of_row w7 w3.heap.size 0 _ _ _ hc7).trans (show (#[Value.slice p7 (l.length + 3) c7] : Array Value)[0]? = some (.slice p7 (l.length + 3) c7) from rfl))))
    all_goals
      rename_i hS
      have HO := hid ho7
      have HB7 := hid hb7
      clear hS ho7 hc7 hb7 hb6
      go_wp2
      go_ret2
      refine ⟨.slice p7 (l.length + 3) c7, rfl, HB3.out.trans (HB7.out.mono HB3.out.size), ?_⟩
      exact own_lower_w HO.out HB3.out.size
end Go.Proofs.Ytknipcnlaaapoaa
