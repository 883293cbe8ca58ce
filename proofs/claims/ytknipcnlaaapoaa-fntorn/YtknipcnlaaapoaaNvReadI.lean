/- The program's NvRead. -/
import Derived.Test.YtknipcnlaaapoaaNvHelp
import Derived.Test.YtknipcnlaaapoaaShelf
namespace Go.Proofs.Ytknipcnlaaapoaa
open Go.RowKit
open Go.Lib (hid)

/-! The parts of a copy's words. -/
def cpK (l : List Int) : Int := l.getD 0 0
def cpC (l : List Int) : Int := l.getD (l.length - 1) 0
def cpN (l : List Int) : List Int := (l.drop 1).take (l.length - 2)
/-- Is a copy whole? -/
def wholeL (l : List Int) : Bool := wholeB (cpK l) (cpN l) (cpC l)

theorem padN_sum (l : List Int) : (padN l).sum = (cpN l).sum := by unfold padN cpN; rw [List.sum_append, noughts_sum]; omega

theorem wholeB_pad (l : List Int) : wholeB (cpK l) (padN l) (cpC l) = wholeL l := by unfold wholeL wholeB; rw [padN_sum]

theorem padN_len (l : List Int) (h2 : 2 ≤ l.length) (h22 : l.length ≤ 22) : (padN l).length = 20 := by unfold padN; simp [noughts_len]; omega

theorem padN_numb {l : List Int} (h : Numb l) : Numb (padN l) := fun x hx => by
  unfold padN at hx
  rcases List.mem_append.1 hx with hx | hx
  · exact h x (List.mem_of_mem_drop (List.mem_of_mem_take hx))
  · exact noughts_numb _ x hx

theorem cpC_bd {l : List Int} (h : Numb l) : 0 ≤ cpC l ∧ cpC l ≤ 1000000000 := by
  unfold cpC
  by_cases hl : l.length - 1 < l.length
  · have : l.getD (l.length - 1) 0 = l[l.length - 1] := by simp [List.getD, hl]
    rw [this]
    exact h _ (List.getElem_mem hl)
  · have : l.getD (l.length - 1) 0 = 0 := by simp [List.getD, hl]
    omega

theorem numb_drop {l : List Int} (h : Numb l) (i : Nat) : Numb (l.drop i) := fun x hx => h x (List.mem_of_mem_drop hx)

theorem cpN_pad (l : List Int) (h2 : 2 ≤ l.length) : (padN l).take (l.length - 2) = cpN l := by
  have e : (cpN l).length = l.length - 2 := by unfold cpN; simp; omega
  have : padN l = cpN l ++ noughts (22 - l.length) := rfl
  rw [this, ← e, List.take_left]

attribute [local go_sem ↓] buildD_eq storeD_eq loadD_eq

theorem storeD_new (W : World) (c' V : Array Value) (h' : c'.size = 44) (hV : V.size = 44) (h1 : V.all (·.oneCell') = true) : (storeD (.pointer (some ⟨W.heap.size, 0, none⟩)) (.agg V)).run Try.prog (W.alloc (.cells c' 47)) = .ok () (W.alloc (.cells V 47)) :=
  run_storeAt_new W _ _ _ (by rw [hV]; kernel_rfl) (by rw [hV]; exact h') h1

theorem loadD_new (W : World) (V : Array Value) (hV : V.size = 44) : (loadD (.pointer (some ⟨W.heap.size, 0, none⟩))).run Try.prog (W.alloc (.cells V 47)) = .ok (.agg V) (W.alloc (.cells V 47)) :=
  run_loadAt_new W _ _ 2 46 Try.underlying47 (by rw [hV]; kernel_rfl)

theorem nvRead_ill (size : Int) (ws : List Int) (hn : ws.length ≤ 1048576) (hf : formB size ws = false) (a : Value) (w : World) (ha : RowIn w a ws) :
    Calls Try.prog 8 #[.agg #[.int .i64 size, a]] w fun e w' => e = .returned (.tuple #[.slice none 0 0, .int .i64 0, .bool false]) ∧ Below w.heap.size w w' := by
  have HA := hid ha
  have CF := hid (fun a W (hW : RowIn W a ws) => formed_calls size ws hn a W hW)
  rw [hf] at CF
  obtain ⟨p, c, rfl, hc, _⟩ := ha
  have HW : Hid (Below w.heap.size w (w.alloc (.cells #[.int .i64 size, .slice p ws.length c] 26))) := hid ((Below.refl _ _).alloc (Nat.le_refl _) _)
  go_enter Try.func8, Try.ntmps8
  go_wp2_with (go_at_call 17; refine (CF.out _ _ (HA.out.on HW.out)).mono ?_; rintro e w1 ⟨rfl, hb1⟩)
  go_ret3
  exact ⟨rfl, HW.out.trans (hb1.mono HW.out.size)⟩

set_option maxRecDepth 20000 in
set_option maxHeartbeats 1000000 in
theorem nvRead_none (m h : Nat) (hh : h = m + 2) (h1 : 1 ≤ m) (h20 : m ≤ 20) (ws : List Int) (hws : ws.length = 2 * h) (hnb : Numb ws) (hst : (standP (wholeL (ws.take h)) (wholeL (ws.drop h)) (cpC (ws.take h)) (cpC (ws.drop h))).2 = false) (a : Value) (w : World) (ha : RowIn w a ws) :
    Calls Try.prog 8 #[.agg #[.int .i64 m, a]] w fun e w' => e = .returned (.tuple #[.slice none 0 0, .int .i64 0, .bool false]) ∧ Below w.heap.size w w' := by
  have HA := hid ha
  have lT : (ws.take h).length = h := by rw [List.length_take]; omega
  have lD : (ws.drop h).length = h := by rw [List.length_drop]; omega
  have CF := hid (fun a W (hW : RowIn W a ws) => formed_calls m ws (by omega) a W hW)
  rw [formB_iff.2 ⟨by omega, by omega, by omega, hnb⟩] at CF
  have CC := hid (fun a W (hW : RowIn W a ws) => copiesOf_calls m h hh h1 h20 ws hws a W hW)
  have CS := hid (fun W => standing_calls (cpK (ws.take h)) (cpK (ws.drop h)) (cpC (ws.take h)) (cpC (ws.drop h)) (padN (ws.take h)) (padN (ws.drop h)) (padN_len _ (by omega) (by omega)) (padN_len _ (by omega) (by omega)) (padN_numb (numb_take hnb h)) (padN_numb (numb_drop hnb h)) (cpC_bd (numb_take hnb h)) (cpC_bd (numb_drop hnb h)) W)
  rw [wholeB_pad, wholeB_pad, hst] at CS
  have hA := copyV_size (ws.take h) (by omega) (by omega)
  have hB := copyV_size (ws.drop h) (by omega) (by omega)
  have o1 : (copyV (ws.take h) ++ copyV (ws.drop h)).size = 44 := by rw [Array.size_append, hA, hB]
  have o2 : (copyV (ws.take h) ++ copyV (ws.drop h)).all (·.oneCell') = true := by rw [Array.all_append, copyV, copyV, nvc_one, nvc_one]; rfl
  have hsd := fun W c' h' => storeD_new W c' _ h' o1 o2
  have hld := fun W => loadD_new W _ o1
  have CS' : Hid (∀ W, Calls Try.prog 19 #[.agg (copyV (ws.take h) ++ copyV (ws.drop h))] W fun e w' => ∃ i, e = .returned (.tuple #[.int .i64 i, .bool false]) ∧ Below W.heap.size W w') := hid (fun W => (CS.out W).mono fun e w' ⟨he, hb⟩ => ⟨_, he, hb⟩)
  generalize copyV (ws.take h) ++ copyV (ws.drop h) = V at *
  obtain ⟨p, c, rfl, hc, _⟩ := ha
  have HW : Hid (Below w.heap.size w (w.alloc (.cells #[.int .i64 m, .slice p ws.length c] 26))) := hid ((Below.refl _ _).alloc (Nat.le_refl _) _)
  clear hst CS hA hB o1 o2 lT lD hws hnb
  go_enter Try.func8, Try.ntmps8
  go_wp2_with (go_at_call 17; refine (CF.out _ _ (HA.out.on HW.out)).mono ?_; rintro e w1 ⟨rfl, hb1⟩; refine Hid.out ?_)
  refine hid ?_
  have k0 := hb1.cell (p := ⟨w.heap.size, 0, none⟩) (by simp)
  have k1 := hb1.cell (p := ⟨w.heap.size, 1, none⟩) (by simp)
  have HB1 := hid (HW.out.trans (hb1.mono HW.out.size))
  clear hb1
  go_wp2_with (first | (go_at_call 18; refine (CC.out _ _ (HA.out.on HB1.out)).mono ?_; rintro e w2 ⟨rfl, hb2⟩; have HB2 := hid (HB1.out.trans (hb2.mono HB1.out.size)); clear hb2) | (go_at_call 19; refine (CS'.out _).mono ?_; rintro e w3 ⟨i, rfl, hb3⟩; have HB3 := hid ((HB2.out.alloc HB2.out.size (.cells V 47)).trans (hb3.mono (by simp; have := HB2.out.size; omega))); clear hb3))
  go_ret3
  exact ⟨rfl, HB3.out⟩

theorem copy_cells (l : List Int) (h2 : 2 ≤ l.length) (h22 : l.length ≤ 22) : (∀ j u, (ints (cpN l))[j]? = some u → (copyV l)[1 + j]? = some u) ∧ (copyV l)[21]? = some (.int .i64 (cpC l)) := by
  refine ⟨fun j u hj => ?_, nvc_last _ _ _ (padN_len l h2 h22)⟩
  have hjl : j < (cpN l).length := by rw [← ints_len]; exact (List.getElem?_eq_some_iff.1 hj).1
  rw [ints_at _ j hjl] at hj
  have e : padN l = cpN l ++ noughts (22 - l.length) := rfl
  have := nvc_at (l.getD 0 0) (l.getD (l.length - 1) 0) (padN l) j (by rw [e, List.length_append]; omega)
  unfold copyV
  rw [this, ← hj, e]
  simp [List.getD, List.getElem?_append_left hjl, hjl]

set_option maxRecDepth 20000 in
set_option maxHeartbeats 2000000 in
theorem nvRead_yes (m h : Nat) (hh : h = m + 2) (h1 : 1 ≤ m) (h20 : m ≤ 20) (ws : List Int) (hws : ws.length = 2 * h) (hnb : Numb ws) (i : Nat) (hi : i = 0 ∨ i = 1) (hst : standP (wholeL (ws.take h)) (wholeL (ws.drop h)) (cpC (ws.take h)) (cpC (ws.drop h)) = ((i : Int), true)) (L : List Int) (hL : L = if i = 0 then ws.take h else ws.drop h) (a : Value) (w : World) (ha : RowIn w a ws) :
    Calls Try.prog 8 #[.agg #[.int .i64 m, a]] w fun e w' => ∃ sv, e = .returned (.tuple #[sv, .int .i64 (cpC L), .bool true]) ∧ Below w.heap.size w w' ∧ w'.ownsRow w.heap.size 2 1 sv m (ints (cpN L)) := by
  have HA := hid ha
  have lT : (ws.take h).length = h := by rw [List.length_take]; omega
  have lD : (ws.drop h).length = h := by rw [List.length_drop]; omega
  have CF := hid (fun a W (hW : RowIn W a ws) => formed_calls m ws (by omega) a W hW)
  rw [formB_iff.2 ⟨by omega, by omega, by omega, hnb⟩] at CF
  have CC := hid (fun a W (hW : RowIn W a ws) => copiesOf_calls m h hh h1 h20 ws hws a W hW)
  have CS := hid (fun W => standing_calls (cpK (ws.take h)) (cpK (ws.drop h)) (cpC (ws.take h)) (cpC (ws.drop h)) (padN (ws.take h)) (padN (ws.drop h)) (padN_len _ (by omega) (by omega)) (padN_len _ (by omega) (by omega)) (padN_numb (numb_take hnb h)) (padN_numb (numb_drop hnb h)) (cpC_bd (numb_take hnb h)) (cpC_bd (numb_drop hnb h)) W)
  rw [wholeB_pad, wholeB_pad, hst] at CS
  have hA := copyV_size (ws.take h) (by omega) (by omega)
  have hB := copyV_size (ws.drop h) (by omega) (by omega)
  have o1 : (copyV (ws.take h) ++ copyV (ws.drop h)).size = 44 := by rw [Array.size_append, hA, hB]
  have o2 : (copyV (ws.take h) ++ copyV (ws.drop h)).all (·.oneCell') = true := by rw [Array.all_append, copyV, copyV, nvc_one, nvc_one]; rfl
  have hsd := fun W c' h' => storeD_new W c' _ h' o1 o2
  have hld := fun W => loadD_new W _ o1
  have lN : (cpN L).length = m := by
    have : L.length = h := by rw [hL]; split <;> assumption
    unfold cpN; simp; omega
  have hV : (∀ j u, (ints (cpN L))[j]? = some u → (copyV (ws.take h) ++ copyV (ws.drop h))[i * 22 + 1 + j]? = some u) ∧ (copyV (ws.take h) ++ copyV (ws.drop h))[i * 22 + 21]? = some (.int .i64 (cpC L)) := by
    rcases hi with rfl | rfl
    · rw [if_pos rfl] at hL
      subst hL
      obtain ⟨c1, c2⟩ := copy_cells (ws.take h) (by omega) (by omega)
      refine ⟨fun j u hj => ?_, ?_⟩
      · have hjl : j < m := by rw [← lN, ← ints_len]; exact (List.getElem?_eq_some_iff.1 hj).1
        rw [show 0 * 22 + 1 + j = 1 + j by omega, Array.getElem?_append_left (by omega)]
        exact c1 j u hj
      · rw [show 0 * 22 + 21 = 21 by omega, Array.getElem?_append_left (by omega)]
        exact c2
    · rw [if_neg (by decide)] at hL
      subst hL
      obtain ⟨c1, c2⟩ := copy_cells (ws.drop h) (by omega) (by omega)
      refine ⟨fun j u hj => ?_, ?_⟩
      · rw [Array.getElem?_append_right (by omega), hA, show 1 * 22 + 1 + j - 22 = 1 + j by omega]
        exact c1 j u hj
      · rw [Array.getElem?_append_right (by omega), hA, show 1 * 22 + 21 - 22 = 21 by omega]
        exact c2
  have CS' : Hid (∀ W, Calls Try.prog 19 #[.agg (copyV (ws.take h) ++ copyV (ws.drop h))] W fun e w' => e = .returned (.tuple #[.int .i64 i, .bool true]) ∧ Below W.heap.size W w') := hid (fun W => CS.out W)
  generalize copyV (ws.take h) ++ copyV (ws.drop h) = V at *
  have HV := hid hV
  have LN := hid lN
  obtain ⟨p, c, rfl, hc, _⟩ := ha
  have HW : Hid (Below w.heap.size w (w.alloc (.cells #[.int .i64 m, .slice p ws.length c] 26))) := hid ((Below.refl _ _).alloc (Nat.le_refl _) _)
  have b1 : (0 : Int) ≤ (m : Int) := by omega
  have b2 : (m : Int) ≤ (20 : Int) := by omega
  obtain ⟨i0, hi0, hz0, hz1, hz2⟩ := info_parts intInfo
  have CL := hid (fun b off W (hcl : ∀ j u, (ints (cpN L))[j]? = some u → W.cell? ⟨b, off + j, none⟩ = some u) => Try.slices_Clone i0 _ 1 8 hi0 hz0 hz1 hz2 rfl (by decide) Try.sizeOf2 b off m 20 (ints (cpN L)) W (by rw [ints_len, lN, Nat.mul_one]) (by unfold maxLen; omega) (by omega) hcl (ints_one _))
  clear hst CS hA hB o1 o2 lT lD hws hnb hV lN hL hi0 hz0 hz1 hz2
  go_enter Try.func8, Try.ntmps8
  go_wp2_with (go_at_call 17; refine (CF.out _ _ (HA.out.on HW.out)).mono ?_; rintro e w1 ⟨rfl, hb1⟩; refine Hid.out ?_)
  refine hid ?_
  have k0 := hb1.cell (p := ⟨w.heap.size, 0, none⟩) (by simp)
  have k1 := hb1.cell (p := ⟨w.heap.size, 1, none⟩) (by simp)
  have HV1 : Hid (w1.heap[w.heap.size]? = some (.cells #[.int .i64 m, .slice p ws.length c] 26)) := hid ((hb1.block _ (by simp)).trans (heap_alloc_new _ _))
  have HB1 := hid (HW.out.trans (hb1.mono HW.out.size))
  have hz1 := hb1.size
  simp only [World.size_alloc] at hz1
  clear hb1
  go_wp2_with (go_at_call 18; refine (CC.out _ _ (HA.out.on HB1.out)).mono ?_; rintro e w2 ⟨rfl, hb2⟩; refine Hid.out ?_)
  refine hid ?_
  have hz2 := hb2.size
  have HV2 := hid ((hb2.block w.heap.size (by omega)).trans HV1.out)
  have HB2 := hid (HB1.out.trans (hb2.mono HB1.out.size))
  clear hb2 k0 k1
  go_wp2_with (go_at_call 19; refine (CS'.out _).mono ?_; rintro e w3 ⟨rfl, hb3⟩; refine Hid.out ?_)
  refine hid ?_
  have hz3 := hb3.size
  simp only [World.size_alloc] at hz3
  have HV3 := hid ((hb3.block w.heap.size (by simp; omega)).trans ((Below.heap_alloc w2 _ _ (by omega)).trans HV2.out))
  have HC3 : Hid (w3.heap[w2.heap.size]? = some (.cells V 47)) := hid ((hb3.block _ (by simp)).trans (heap_alloc_new _ _))
  have HB3 := hid ((HB2.out.alloc HB2.out.size (.cells V 47)).trans (hb3.mono (by simp; have := HB2.out.size; omega)))
  clear hb3
  have r0 : ∀ W : World, Below w3.heap.size w3 W → W.cell? ⟨w.heap.size, 0, none⟩ = some (.int .i64 m) := fun W hW => (var_cells ((hW.block _ (by omega)).trans HV3.out)).1
  have r1 : ∀ W : World, Below w3.heap.size w3 W → W.cell? ⟨w2.heap.size, i * 22 + 21, none⟩ = some (.int .i64 (cpC L)) := fun W hW => by
    rw [cell_of_row W _ _ _ _ _ ((hW.block _ (by omega)).trans HC3.out)]; exact HV.out.2
  have CL2 : Hid (∀ W : World, Below w3.heap.size w3 W → _) := hid (fun W hW => CL.out w2.heap.size (i * 22 + 1) W (fun j u hj => by
    rw [cell_of_row W _ _ _ _ _ ((hW.block _ (by omega)).trans HC3.out)]; exact HV.out.1 j u hj))
  rcases hi with rfl | rfl
  all_goals
    simp only [Nat.zero_mul, Nat.one_mul, Nat.zero_add, Nat.reduceAdd] at r1 CL2
    go_wp2
    go_region_held3 (fun w' => Below w3.heap.size w3 w') (first | with_reducible assumption | exact Below.drew (Below.refl _ _) | exact below_step (by assumption) (Nat.le_refl _) (by assumption)) ((go_at_call 20; refine (CL2.out _ (by assumption)).mono ?_; rintro e w5 ⟨sv, rfl, ho5, _, hb5⟩))
    rename_i hS
    have HS := hid hS
    have HO := hid ho5
    clear hS ho5 hb5
    go_wp2
    go_ret3
    exact ⟨sv, rfl, HB3.out.trans (HS.out.mono HB3.out.size), ⟨HO.out.1, HO.out.2.imp id fun ⟨g, cap, cur, a1, a2, a3⟩ => ⟨g, cap, cur, a1, Nat.le_trans HB3.out.size a2, a3⟩⟩⟩
end Go.Proofs.Ytknipcnlaaapoaa
