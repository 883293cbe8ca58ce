/- The specification's NvWrites, where it tells the writes. -/
import Derived.Test.YtknipcnlaaapoaaNvSpecWr
namespace Go.Proofs.Ytknipcnlaaapoaa
open Go.RowKit
open Go.Lib (hid)

/-- Numbers as writes from a place on. -/
def wsOf (start : Nat) (C : List Int) : List (Nat × Int) := (List.range C.length).map fun j => (start + j, C.getD j 0)

theorem wsOf_len (start : Nat) (C : List Int) : (wsOf start C).length = C.length := by simp [wsOf]

theorem wsOf_at (start : Nat) (C : List Int) (j : Nat) (h : j < C.length) : (wsOf start C)[j]? = some (start + j, C.getD j 0) := by simp [wsOf, h]

theorem tells_wsOf (start : Nat) (l : List Int) (k c : Int) : tells start l.length (pad20 l) k c = wsOf start (0 :: (l ++ [c])) ++ [(start, k)] := by
  refine List.ext_getElem? fun j => ?_
  have hlen : (wsOf start (0 :: (l ++ [c]))).length = l.length + 2 := by rw [wsOf_len]; simp
  by_cases h0 : j = 0
  · subst h0
    rw [List.getElem?_append_left (by omega), wsOf_at _ _ _ (by simp)]
    rfl
  · by_cases h1 : j < l.length + 1
    · obtain ⟨i, rfl⟩ : ∃ i, j = i + 1 := ⟨j - 1, by omega⟩
      rw [tells_mid _ _ _ _ _ i (by omega), List.getElem?_append_left (by omega), wsOf_at _ _ _ (by simp; omega)]
      have e1 : (pad20 l).getD i 0 = l.getD i 0 := by unfold pad20; simp [List.getD, List.getElem?_append_left (show i < l.length by omega)]
      have e2 : (0 :: (l ++ [c])).getD (i + 1) 0 = l.getD i 0 := by simp [List.getD, List.getElem?_append_left (show i < l.length by omega)]
      rw [e1, e2, show start + 1 + i = start + (i + 1) by omega]
    · by_cases h2 : j = l.length + 1
      · subst h2
        rw [tells_cnt, List.getElem?_append_left (by omega), wsOf_at _ _ _ (by simp)]
        have e2 : (0 :: (l ++ [c])).getD (l.length + 1) 0 = c := by simp [List.getD]
        rw [e2, show start + 1 + l.length = start + (l.length + 1) by omega]
      · by_cases h3 : j = l.length + 2
        · subst h3
          rw [tells_chk, List.getElem?_append_right (by omega), hlen]
          simp
        · rw [List.getElem?_eq_none (by rw [tells_len]; omega), List.getElem?_eq_none (by rw [List.length_append, hlen]; simp; omega)]

theorem putW_eq (st : Nat) (l : List Int) (c : Int) : putW st l c = flatW (wsOf st (0 :: (l ++ [c]))) ++ [(st : Int), 1 + (c + l.sum) % 999983] := by
  unfold putW
  rw [tells_wsOf]
  unfold flatW
  rw [List.flatMap_append]
  rfl

set_option maxRecDepth 20000 in
set_option maxHeartbeats 4000000 in
theorem specWrites_yes (h : Nat) (l : List Int) (hh : h = l.length + 2) (h1 : 1 ≤ l.length) (h20 : l.length ≤ 20) (hln : Numb l) (ws : List Int) (hws : ws.length = 2 * h) (hnb : Numb ws) (i : Nat) (hi : i = 0 ∨ i = 1) (hst : (bestOf ws h 2).1 = i) (cnt : Int) (hro : (readOut l.length ws).2 = (cnt, true)) (hmx : cnt ≠ 1000000000) (hbd : 0 ≤ cnt ∧ cnt ≤ 1000000000) (a b : Value) (w : World) (ha : RowIn w a ws) (hb : RowIn w b l) (hnil : ∀ c, b = .slice none l.length c → c = 0) :
    Calls Try.prog 13 #[.agg #[.int .i64 l.length, a], b] w fun e w' => ∃ sv, e = .returned (.tuple #[sv, .bool true]) ∧ Below w.heap.size w w' ∧ w'.ownsRow w.heap.size 61 2 sv (l.length + 3) (ints (putW (if i = 0 then h else 0) l (cnt + 1))) := by
  have HA := hid ha
  have HBV := hid hb
  have HNIL := hid hnil
  have CR := hid (fun a W (hW : RowIn W a ws) => read_spec l.length ws (by omega) a W hW)
  unfold ReadPost at CR
  rw [hro] at CR
  have CN := hid (fun b W (hW : RowIn W b l) => l3Numbers_calls l (by omega) b W hW)
  rw [numbB_iff.2 hln] at CN
  have CS := hid (fun a W (hW : RowIn W a ws) => l3Stands_calls l.length h hh h1 h20 ws hws hnb a W hW)
  rw [hst] at CS
  generalize (readOut l.length ws).1 = R at *
  obtain ⟨C, hCd⟩ : ∃ C : List Int, C = 0 :: (l ++ [cnt + 1]) := ⟨_, rfl⟩
  have hCl : C.length = l.length + 2 := by rw [hCd]; simp
  have CK := hid (fun a W (hW : RowIn W a C) => l3Check_calls C (cnt + 1 + l.sum) (by rw [hCd]; simp; omega) (by omega) (by omega) (fun x hx => by
    rw [hCd] at hx
    have hx : x ∈ l ++ [cnt + 1] := hx
    rcases List.mem_append.1 hx with hx | hx
    · have := hln x hx; omega
    · obtain rfl := List.mem_singleton.1 hx; omega) a W hW)
  have HCD := hid hCd
  have HIC : Hid (ints [0] ++ ints l ++ ints [cnt + 1] = ints C) := hid (by rw [hCd]; simp [ints])
  clear hCd
  obtain ⟨st, hst2⟩ : ∃ st : Nat, st = if i = 0 then h else 0 := ⟨_, rfl⟩
  have hst22 : st ≤ 22 := by rw [hst2]; split <;> omega
  have e0 : IntKind.i64.wrap (1 - (i : Int)) = 1 - (i : Int) := by rw [IntKind.wrap_i64]; omega
  have e1 : IntKind.i64.wrap ((l.length : Int) + 2) = (l.length : Int) + 2 := by rw [IntKind.wrap_i64]; omega
  have e3 : IntKind.i64.wrap ((1 - (i : Int)) * ((l.length : Int) + 2)) = (st : Int) := by
    rw [show (l.length : Int) + 2 = (h : Int) by omega]
    rcases hi with rfl | rfl
    · rw [if_pos rfl] at hst2; rw [IntKind.wrap_i64, show (1 - ((0 : Nat) : Int)) * (h : Int) = (h : Int) by simp]; omega
    · rw [if_neg (by decide)] at hst2; rw [IntKind.wrap_i64, show (1 - ((1 : Nat) : Int)) * (h : Int) = 0 by simp]; omega
  rw [← hst2]
  have b4 : (cnt == 1000000000) = false := by simpa using hmx
  have b5 : IntKind.i64.wrap (cnt + 1) = cnt + 1 := by rw [IntKind.wrap_i64]; omega
  obtain ⟨p, c, rfl, hc, _⟩ := ha
  obtain ⟨q, d, rfl, _, _⟩ := hb
  have HW : Hid (Below w.heap.size w ((w.alloc (.cells #[.int .i64 l.length, .slice p ws.length c] 26)).alloc (.cells #[] 61))) := hid (((Below.refl _ _).alloc (Nat.le_refl _) _).alloc (by simp) _)
  have HOE : Hid (((w.alloc (.cells #[.int .i64 l.length, .slice p ws.length c] 26)).alloc (.cells #[] 61)).ownsRow w.heap.size 61 2 (.slice (some ⟨w.heap.size + 1, 0, none⟩) 0 0) 0 []) := hid (by
    have h := World.ownsRow_made (w.alloc (.cells #[.int .i64 l.length, .slice p ws.length c] 26)) #[] 0 (base := w.heap.size) (e := 61) (size := 2) (by simp) (Nat.zero_le _) rfl
    simpa using h)
  have HC0 : Hid (((w.alloc (.cells #[.int .i64 l.length, .slice p ws.length c] 26)).alloc (.cells #[] 61)).heap[w.heap.size]? = some (.cells #[.int .i64 l.length, .slice p ws.length c] 26)) := hid (heap_alloc2_old _ _ _)
  have HCL := hid hCl
  have hC22 : C.length ≤ 22 := by omega
  have hC2 : 2 ≤ C.length := by omega
  clear hws hnb hst hro hmx hbd hln hnil hst2 hi hh hCl
  go_enter Try.func13, Try.ntmps13
  go_wp2_with (go_at_call 26; refine (CR.out _ _ (HA.out.on HW.out)).mono ?_; rintro e w1 ⟨sv1, rfl, hb1, _⟩; refine Hid.out ?_)
  refine hid ?_
  have hz1 := hb1.size
  simp only [World.size_alloc] at hz1
  have HC1 := hid ((hb1.block w.heap.size (by simp; omega)).trans HC0.out)
  obtain ⟨k0, k1⟩ := var_cells HC1.out
  have HB1 := hid (HW.out.trans (hb1.mono HW.out.size))
  have HO1 := hid (own_below HOE.out hb1)
  clear hb1
  go_wp2_with (go_at_call 27; refine (CN.out _ _ (HBV.out.on HB1.out)).mono ?_; rintro e w2 ⟨rfl, e2⟩; rw [e2]; clear e2 w2; refine Hid.out ?_)
  refine hid ?_
  clear k0 k1
  have k0 : ∀ W : World, Below w1.heap.size w1 W → W.cell? ⟨w.heap.size, 0, none⟩ = some (.int .i64 l.length) := fun W hW => (var_cells ((hW.block _ (by omega)).trans HC1.out)).1
  have k1 : ∀ W : World, Below w1.heap.size w1 W → W.cell? ⟨w.heap.size, 1, none⟩ = some (.slice p ws.length c) := fun W hW => (var_cells ((hW.block _ (by omega)).trans HC1.out)).2
  have CS1 := hid (fun W (hW : Below w1.heap.size w1 W) => CS.out _ W ((HA.out.on HB1.out).on hW))
  have q0 := k0 w1 (Below.refl _ _)
  go_wp2
  go_region_held3 (fun w' => Below w1.heap.size w1 w') (first | with_reducible assumption | exact Below.drew (Below.refl _ _) | exact below_step (by assumption) (Nat.le_refl _) (by assumption)) ((go_at_call 28; refine (CS1.out _ (by assumption)).mono ?_; rintro e w2 ⟨rfl, hb2⟩))
  rename_i hS
  have hz2 := hS.size
  have HO2 := hid (own_below HO1.out hS)
  have HB2 := hid (HB1.out.trans (hS.mono HB1.out.size))
  have HL2 : Hid ((w2.alloc (.cells #[.int .i64 0] 2)).ownsRow w2.heap.size 2 1 (.slice (some ⟨w2.heap.size, 0, none⟩) 1 1) 1 (ints [0])) := hid (World.ownsRow_lit (base := w2.heap.size) (e := 2) (size := 1) w2 #[.int .i64 0] 1 (Nat.le_refl _) (by decide) rfl)
  have HK2 : Hid (Below w2.heap.size w2 (w2.alloc (.cells #[.int .i64 0] 2))) := hid ((Below.refl _ _).alloc (Nat.le_refl _) _)
  clear hS hb2 k0 k1 q0 e0 e1 e3
  go_wp2_with (first | (at_builtin; refine wp_append_ints rfl _ _ rfl w2.heap.size _ 1 _ (by rfl) HL2.out _ l (by rfl) (HBV.out.on (HB2.out.trans (HK2.out.mono HB2.out.size))) (by omega) (by simp) HNIL.out ?_; intro v1 w3 ho3 hg3 _; refine Hid.out ?_))
  refine hid ?_
  have hz3 := hg3.size
  simp only [World.size_alloc] at hz3
  have HB3 := hid (HK2.out.grown hg3 (by simp) (fun k hk => by cases hk; exact Nat.le_refl _))
  have HO3 := hid ho3
  clear hg3 ho3
  go_wp2_with (first | (at_builtin; refine wp_append_ints rfl _ _ rfl w2.heap.size _ (1 + l.length) _ (by rfl) (own_below HO3.out ((Below.refl _ _).alloc (Nat.le_refl _) _)) _ [cnt + 1] (by rfl) (row_lit _ _ _) (by simp; omega) (by simp; omega) (fun c h => by cases h) ?_; intro v2 w4 ho4 hg4 _; refine Hid.out ?_))
  refine hid ?_
  have hz4 := hg4.size
  simp only [World.size_alloc] at hz4
  rw [HIC.out, show 1 + l.length + [cnt + 1].length = C.length by have := HCL.out; simp; omega] at ho4
  have HB4 := hid ((HB3.out.alloc (by omega) _).grown hg4 (by simp; omega) (fun k hk => (HO3.out.lt k hk).1))
  obtain ⟨g4, c4, rfl, hgb, hgl⟩ := own_form ho4 (by omega)
  have HC4 := hid ho4
  have HOut4 := hid (own_below HO2.out HB4.out)
  have HW4 := hid (HB2.out.trans (HB4.out.mono HB2.out.size))
  have hne4 : (Value.slice (some ⟨w.heap.size + 1, 0, none⟩) 0 0).ownBlock ≠ some g4 := by
    intro e
    have e2 : w.heap.size + 1 = g4 := Option.some.inj e
    omega
  have HNE4 := hid hne4
  clear hg4 ho4 hne4
  go_wp2
  go_loopw [6, 12] (fun ov iv wr => ∃ j : Nat, j ≤ C.length ∧ iv = .int .i64 j ∧ Below w.heap.size w wr ∧ wr.ownsRow w.heap.size 61 2 ov j (ints (flatW ((wsOf st C).take j))) ∧ wr.ownsRow w2.heap.size 2 1 (.slice (some ⟨g4, 0, none⟩) C.length c4) C.length (ints C) ∧ ov.ownBlock ≠ some g4) (fun _ iv _ => C.length - (RowKit.intOf iv).toNat)
  case atStart => exact ⟨0, Nat.zero_le _, rfl, HW4.out, HOut4.out, HC4.out, HNE4.out⟩
  case round =>
    obtain ⟨j, hj, rfl, hbel, hout, hcr, hne⟩ := hrel
    have HBE := hid hbel
    have HOU := hid hout
    have HCR := hid hcr
    have hg4r := (hcr.lt g4 rfl).2
    have hzr := hbel.size
    by_cases hlt : j < C.length
    · have hc1 := hcr.cellAt j (by omega)
      rw [ints_at C j hlt] at hc1
      have hgd : C.getD j 0 = C[j] := by simp [List.getD, hlt]
      have HFT := hid (flatW_take (wsOf st C) j (st + j) (C.getD j 0) (wsOf_at st C j hlt))
      rw [hgd] at HFT
      have HX := hid (own_slice hout)
      clear hbel hout hcr hgd
      generalize C[j] = x at *
      obtain ⟨pv, cv, rfl⟩ := HX.out
      have j1 : (0 : Int) ≤ (j : Int) := by omega
      have j2 : (j : Int) < (C.length : Int) := by omega
      have j3 : IntKind.i64.wrap ((st : Int) + (j : Int)) = (st : Int) + (j : Int) := by rw [IntKind.wrap_i64]; omega
      have HJ : Hid (j ≤ 100000000) := hid (by omega)
      have HWZ : Hid (w.heap.size ≤ wr.heap.size + 1) := hid (by omega)
      go_wp2_with (first | (at_builtin; refine wp_append_write rfl _ _ rfl w.heap.size _ j _ (by rfl) (HOU.out.alloc _) wr.heap.size 1 ((st : Int) + (j : Int)) x (by rfl) (by simp [go_sem]) (by simp [go_sem]) HJ.out (by simp only [World.size_alloc]; exact HWZ.out) ?_; intro v5 w5 ho5 hg5 hv5; refine Hid.out ?_))
      refine hid ?_
      have HN5 : Hid (w5.ownsRow w.heap.size 61 2 v5 (j + 1) (ints (flatW ((wsOf st C).take (j + 1))))) := hid (by rw [HFT.out, Int.natCast_add]; exact ho5)
      have HB5 := hid ((HBE.out.alloc HBE.out.size _).grown hg5 (by simp; omega) (fun k hk => (HOU.out.lt k hk).1))
      have HC5 := hid ((HCR.out.alloc _).kept hg5 (Or.inr (fun e => hne e.symm)))
      have HNE5 : Hid (v5.ownBlock ≠ some g4) := hid (by
        rcases hv5 with h | h
        · rw [h]; exact hne
        · rw [h]; intro e
          have e2 := Option.some.inj e
          simp only [World.size_alloc] at e2
          omega)
      clear ho5 hg5 hv5
      go_wp2
      go_roundw
      case rel => exact ⟨j + 1, by omega, by go_num, HB5.out, HN5.out, HC5.out, HNE5.out⟩
      case measure => simp [RowKit.intOf]; omega
    · have hie : j = C.length := by omega
      subst hie
      obtain ⟨pv, cv, rfl⟩ := own_slice hout
      rw [List.take_of_length_le (by rw [wsOf_len]; omega)] at hout
      have HOU2 := hid hout
      have HRC := hid (row_in_own hcr)
      have HJ : Hid (C.length ≤ 100000000) := hid (by omega)
      have HWZ : Hid (w.heap.size ≤ wr.heap.size + 1) := hid (by omega)
      clear hbel hout hcr
      go_wp2_with (first | (go_at_call 29; refine (CK.out _ _ HRC.out).mono ?_; rintro e w6 ⟨rfl, e6⟩; rw [e6]; clear e6 w6) | (at_builtin; refine wp_append_write rfl _ _ rfl w.heap.size _ C.length _ (by rfl) (HOU2.out.alloc _) wr.heap.size 1 (st : Int) (1 + (cnt + 1 + l.sum) % 999983) (by rfl) (by simp [go_sem]) (by simp [go_sem]) HJ.out (by simp only [World.size_alloc]; exact HWZ.out) ?_; intro v7 w7 ho7 hg7 _; refine Hid.out ?_))
      refine hid ?_
      have HB7 := hid ((HBE.out.alloc HBE.out.size _).grown hg7 (by simp; omega) (fun k hk => (HOU2.out.lt k hk).1))
      have HO7 := hid ho7
      clear ho7 hg7
      go_wp2
      go_ret2
      refine ⟨v7, rfl, HB7.out, ?_⟩
      rw [putW_eq, ← HCD.out, show l.length + 3 = C.length + 1 by have := HCL.out; omega]
      exact HO7.out
end Go.Proofs.Ytknipcnlaaapoaa
