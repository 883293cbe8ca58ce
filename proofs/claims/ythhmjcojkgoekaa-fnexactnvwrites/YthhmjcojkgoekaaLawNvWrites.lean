/- The law on NvWrites, walked: it answers true. -/
import Derived.Test.YthhmjcojkgoekaaNvRHelp
import Derived.Test.YthhmjcojkgoekaaNvWrBoth
import Derived.Deep.RegionHeld3
namespace Go.Proofs.Ythhmjcojkgoekaa
open Go.RowKit
open Go.Lib (hid)

theorem writesOut_few (s : Int) (ws l : List Int) (hl : l.length ≤ 1048576) : (writesOut s ws l).1 ≤ 1048579 ∧ (writesOut s ws l).2.1.length = 2 * (writesOut s ws l).1 := by
  unfold writesOut
  split
  · exact ⟨by show l.length + 3 ≤ _; omega, by show (putW _ _ _).length = 2 * (l.length + 3); rw [putW_len]⟩
  · exact ⟨Nat.zero_le _, rfl⟩

set_option maxRecDepth 20000 in
set_option maxHeartbeats 4000000 in
theorem law_writes_calls (s : Int) (l vs : List Int) (hm : l.length ≤ maxLen) (a b : Value) (w : World) (ha : ArgInts w a l) (hb : ArgInts w b vs) :
    Calls Try.prog 7 #[.agg #[.int .i64 s, a], b] w fun e w' => e = .returned (.bool true) ∧ Below w.heap.size w w' := by
  have HA := hid ha
  have HBV := hid hb
  have CZ := hid (fun a W (hW : ArgInts W a l) => sz_nv s l hm 1048576 (Nat.le_refl _) a W hW)
  obtain ⟨p0, c0, rfl, _⟩ := ha
  obtain ⟨q0, d0, rfl, _⟩ := hb
  obtain ⟨WA, hWA⟩ : ∃ WA, WA = w.alloc (.cells #[.int .i64 s, .slice p0 l.length c0] 40) := ⟨_, rfl⟩
  have HWA : Hid (Below w.heap.size w WA) := hid (by rw [hWA]; exact (Below.refl _ _).alloc (Nat.le_refl _) _)
  have HCA : Hid (WA.heap[w.heap.size]? = some (.cells #[.int .i64 s, .slice p0 l.length c0] 40)) := hid (by rw [hWA]; exact heap_alloc_new _ _)
  have hzA : WA.heap.size = w.heap.size + 1 := by rw [hWA]; simp
  by_cases hvl : vs.length ≤ 1048576
  · have hdv : ¬ (vs.length : Int) > 1048576 := by omega
    by_cases hl : l.length ≤ 1048576
    · rw [if_pos hl] at CZ
      have hd : ¬ ((1048576 - l.length : Nat) : Int) < 0 := by omega
      generalize ((1048576 - l.length : Nat) : Int) = z at *
      obtain ⟨hfew, hFl⟩ := writesOut_few s l vs hvl
      have CI := hid (fun a b w ha hb => writes_impl s l vs hl hvl a b w ha hb)
      have CS := hid (fun a b w ha hb hn => writes_spec s l vs hl hvl a b w ha hb hn)
      unfold WritesPost at CI CS
      generalize (writesOut s l vs).1 = n at *
      generalize (writesOut s l vs).2.1 = F at *
      generalize (writesOut s l vs).2.2 = ok at *
      have hbb : (ok != ok) = false := by cases ok <;> rfl
      have HWAe := hid hWA
      have HFL := hid hFl
      clear hWA hFl
      go_enter Try.func7, Try.ntmps7
      go_wp2_with (go_at_call 25; rw [← HWAe.out]; refine (CZ.out _ _ (HA.out.on HWA.out)).mono ?_; rintro e w1 ⟨rfl, hb1⟩; refine Hid.out ?_)
      refine hid ?_
      have HC1 := hid ((hb1.block _ (by omega)).trans HCA.out)
      have HB1 := hid (HWA.out.trans (hb1.mono HWA.out.size))
      have hz1 := hb1.size
      obtain ⟨k0, k1⟩ := var_cells HC1.out
      clear hb1
      go_wp2_with (go_at_call 27; refine (to_nv s l hl _ _ (HA.out.on HB1.out)).mono ?_; rintro e w2 ⟨sv2, rfl, hb2, ho2⟩; refine Hid.out ?_)
      refine hid ?_
      have HR2 := hid (row_in_own ho2)
      have HC2 := hid ((hb2.block _ (by omega)).trans HC1.out)
      have HB2 := hid (HB1.out.trans (hb2.mono HB1.out.size))
      have hz2 := hb2.size
      clear hb2 ho2 k0 k1
      go_wp2_with (go_at_call 19; refine (to_ints vs hvl _ _ (HBV.out.on HB2.out)).mono ?_; rintro e w3 ⟨rfl, hb3, ho3⟩; refine Hid.out ?_)
      refine hid ?_
      have HR3 := hid (row_in_own ho3)
      have HQ3 := hid (HR2.out.on hb3)
      have HC3 := hid ((hb3.block _ (by omega)).trans HC2.out)
      have HB3 := hid (HB2.out.trans (hb3.mono HB2.out.size))
      have hz3 := hb3.size
      clear hb3 ho3
      go_wp2_with (go_at_call 29; refine (CS.out _ _ _ HQ3.out HR3.out (fun c h => by cases h)).mono ?_; rintro e w4 ⟨sv4, rfl, hb4, ho4⟩; refine Hid.out ?_)
      refine hid ?_
      have HF4 := hid (wrow_own HFL.out ho4)
      have HC4 := hid ((hb4.block _ (by omega)).trans HC3.out)
      have HB4 := hid (HB3.out.trans (hb4.mono HB3.out.size))
      have hz4 := hb4.size
      obtain ⟨p4, c4, rfl⟩ := own_slice ho4
      obtain ⟨k0, k1⟩ := var_cells HC4.out
      clear hb4 ho4
      go_wp2_with (go_at_call 27; refine (to_nv s l hl _ _ (HA.out.on HB4.out)).mono ?_; rintro e w5 ⟨sv5, rfl, hb5, ho5⟩; refine Hid.out ?_)
      refine hid ?_
      obtain ⟨p5, c5, rfl, _, _⟩ := row_in_own ho5
      have hz5 := hb5.size
      have HX5 := hid ho5
      have HK5 := hid hb5
      obtain ⟨WX, hWX⟩ : ∃ WX, WX = w5.alloc (.cells #[.int .i64 s, .slice p5 l.length c5] 26) := ⟨_, rfl⟩
      have HAX : Hid (Below w5.heap.size w5 WX) := hid (by rw [hWX]; exact (Below.refl _ _).alloc (Nat.le_refl _) _)
      have HVX : Hid (WX.heap[w5.heap.size]? = some (.cells #[.int .i64 s, .slice p5 l.length c5] 26)) := hid (by rw [hWX]; exact heap_alloc_new _ _)
      have hzX : w5.heap.size < WX.heap.size := by rw [hWX]; simp
      have HKX := hid (HK5.out.trans (HAX.out.mono HK5.out.size))
      have HXX := hid (own_below HX5.out HAX.out)
      have HWXe := hid hWX
      clear hWX hb5 ho5 k0 k1
      go_wp2_with (go_at_call 19; rw [← HWXe.out]; refine (to_ints vs hvl _ _ (HBV.out.on (HB4.out.trans (HKX.out.mono HB4.out.size)))).mono ?_; rintro e w6 ⟨rfl, hb6, ho6⟩; refine Hid.out ?_)
      refine hid ?_
      have hz6 := hb6.size
      have hzy := (ho6.lt WX.heap.size rfl).2
      have HV6 := hid ((hb6.block _ (by omega)).trans HVX.out)
      have HK6 := hid (HKX.out.trans (hb6.mono HKX.out.size))
      have HX6 := hid (own_below HXX.out hb6)
      have HY6 := hid ho6
      clear hb6 ho6
      obtain ⟨v0, v1⟩ := var_cells HV6.out
      go_wp2_with (go_at_call 30; refine (CI.out _ _ _ (row_in_own HX6.out) (row_in_own HY6.out)).mono ?_; rintro e w7 ⟨sv7, rfl, hb7, ho7⟩; refine Hid.out ?_)
      refine hid ?_
      obtain ⟨p7, c7, rfl⟩ := own_slice ho7
      have hz7 := hb7.size
      have HV7 := hid ((hb7.block _ (by omega)).trans HV6.out)
      have HK7 := hid (HK6.out.trans (hb7.mono HK6.out.size))
      have HX7 := hid (own_below HX6.out hb7)
      have HY7 := hid (own_below HY6.out hb7)
      have HO7 := hid ho7
      clear hb7 ho7 v0 v1
      go_wp2_with (go_at_call 31; refine (eq_writes n F (by omega) _ _ _ (wrow_own HFL.out HO7.out) (HF4.out.on HK7.out)).mono ?_; rintro e w8 ⟨rfl, hb8⟩; refine Hid.out ?_)
      refine hid ?_
      have hz8 := hb8.size
      have HV8 := hid ((hb8.block _ (by omega)).trans HV7.out)
      have HK8 := hid (HK7.out.trans (hb8.mono HK7.out.size))
      have HX8 := hid (own_below HX7.out hb8)
      have HY8 := hid (own_below HY7.out hb8)
      have HO8 := hid (own_below HO7.out hb8)
      have HC8 := hid ((HK8.out.block _ (by omega)).trans HC4.out)
      clear hb8
      have HARG8 := hid (HA.out.on (HB4.out.trans (HK8.out.mono HB4.out.size)))
      have CT := hid (fun W (h : Below w8.heap.size w8 W) => to_nv s l hl _ W (HARG8.out.on h))
      have CE := hid (fun sv W (h : Below w8.heap.size w8 W) (hr : RowIn W sv l) => eq_nv s l (by omega) _ sv W ((row_in_own HX8.out).on h) hr)
      have k0 : ∀ W : World, Below w8.heap.size w8 W → W.cell? ⟨w.heap.size, 0, none⟩ = some (.int .i64 s) := fun W hW => (var_cells ((hW.block _ (by omega)).trans HC8.out)).1
      have k1 : ∀ W : World, Below w8.heap.size w8 W → W.cell? ⟨w.heap.size, 1, none⟩ = some (.slice p0 l.length c0) := fun W hW => (var_cells ((hW.block _ (by omega)).trans HC8.out)).2
      have v0 : ∀ W : World, Below w8.heap.size w8 W → W.cell? ⟨w5.heap.size, 0, none⟩ = some (.int .i64 s) := fun W hW => (var_cells ((hW.block _ (by omega)).trans HV8.out)).1
      have v1 : ∀ W : World, Below w8.heap.size w8 W → W.cell? ⟨w5.heap.size, 1, none⟩ = some (.slice p5 l.length c5) := fun W hW => (var_cells ((hW.block _ (by omega)).trans HV8.out)).2
      go_wp2
      go_region_held3 (fun w' => Below w8.heap.size w8 w') (first | with_reducible assumption | exact Below.drew (Below.refl _ _) | exact below_step (by assumption) (by simp) (by assumption)) ((first | (go_at_call_of 27 (Value.agg #[Value.int .i64 s, Value.slice p0 l.length c0]); refine (CT.out _ (by assumption)).mono ?_; rintro e w9 ⟨sv9, rfl, hb9, ho9⟩) | (go_at_call 20; refine (CE.out _ _ (by assumption) (row_in_own ho9)).mono ?_; rintro e w10 ⟨rfl, hb10⟩)))
      rename_i hS
      have hz10 := hS.size
      have HX10 := hid (own_below HX8.out hS)
      have HY10 := hid (own_below HY8.out hS)
      have HO10 := hid (own_below HO8.out hS)
      have HV10 := hid ((hS.block _ (by omega)).trans HV8.out)
      have HK10 := hid (HK8.out.trans (hS.mono HK8.out.size))
      clear hS k0 k1 v0 v1 hb9 ho9 hb10
      go_wp2_with (go_at_call 19; refine (to_ints vs hvl _ _ (HBV.out.on (HB4.out.trans (HK10.out.mono HB4.out.size)))).mono ?_; rintro e w11 ⟨rfl, hb11, ho11⟩; refine Hid.out ?_)
      refine hid ?_
      have hz11 := hb11.size
      have HV11 := hid ((hb11.block _ (by omega)).trans HV10.out)
      have HK11 := hid (HK10.out.trans (hb11.mono HK10.out.size))
      have HX11 := hid (own_below HX10.out hb11)
      have HY11 := hid (own_below HY10.out hb11)
      have HO11 := hid (own_below HO10.out hb11)
      have HR11 := hid (row_in_own ho11)
      clear hb11 ho11
      go_wp2_with (go_at_call 21; refine (eq_ints vs (by omega) _ _ _ (row_in_own HY11.out) HR11.out).mono ?_; rintro e w12 ⟨rfl, hb12⟩; refine Hid.out ?_)
      refine hid ?_
      have hz12 := hb12.size
      have HV12 := hid ((hb12.block _ (by omega)).trans HV11.out)
      have HK12 := hid (HK11.out.trans (hb12.mono HK11.out.size))
      have HX12 := hid (own_below HX11.out hb12)
      have HY12 := hid (own_below HY11.out hb12)
      have HO12 := hid (own_below HO11.out hb12)
      clear hb12
      obtain ⟨v0, v1⟩ := var_cells HV12.out
      obtain ⟨kk, hkk⟩ : ∃ kk : Nat, kk = 1 + l.length := ⟨_, rfl⟩
      have hkb : kk ≤ 1048577 := by omega
      have HKK := hid hkk
      clear hkk
      go_wp2_with (go_at_call 23; refine (mark_nv s l 1 (by omega) _ _ _ HX12.out).mono ?_; rintro e w13 ⟨he, hg13, _⟩; rw [← HKK.out] at he; subst he; refine Hid.out ?_)
      refine hid ?_
      have hz13 := hg13.size
      have HK13 := hid (HK12.out.trans (grown_to hg13 (by omega) (fun k hk => (HX5.out.lt k hk).1)))
      have HO13 := hid (HO12.out.kept hg13 (by
        cases hb : (Value.slice p7 n c7).ownBlock with
        | none => exact Or.inl rfl
        | some k =>
          have := (HO7.out.lt k hb).1
          refine Or.inr (fun e => ?_)
          have := (HX5.out.lt k e.symm).2
          omega))
      have HY13 := hid (HY12.out.kept hg13 (Or.inr (fun e => by
        have := (HX5.out.lt WX.heap.size e.symm).2
        omega)))
      clear hg13 v0 v1
      go_wp2_with (go_at_call 22; refine (mark_ints vs kk (by omega) _ _ _ HY13.out).mono ?_; rintro e w14 ⟨rfl, hg14, _⟩; refine Hid.out ?_)
      refine hid ?_
      have hz14 := hg14.size
      have HK14 := hid (HK13.out.trans (grown_to hg14 (by omega) (fun k hk => by
        have e2 : WX.heap.size = k := Option.some.inj hk
        omega)))
      have HO14 := hid (HO13.out.kept hg14 (by
        cases hb : (Value.slice p7 n c7).ownBlock with
        | none => exact Or.inl rfl
        | some k =>
          have := (HO7.out.lt k hb).1
          refine Or.inr (fun e => ?_)
          have e2 : k = WX.heap.size := Option.some.inj e
          omega))
      clear hg14
      go_wp2_with (go_at_call 31; refine (eq_writes n F (by omega) _ _ _ (wrow_own HFL.out HO14.out) (HF4.out.on HK14.out)).mono ?_; rintro e w15 ⟨rfl, hb15⟩; refine Hid.out ?_)
      refine hid ?_
      have hz15 := hb15.size
      have HK15 := hid (HK14.out.trans (hb15.mono HK14.out.size))
      have HO15 := hid (own_below HO14.out hb15)
      clear hb15
      go_wp2_with (go_at_call 32; refine (mark_writes F 1 n HFL.out (by omega) _ _ _ HO15.out).mono ?_; rintro e w16 ⟨rfl, hg16, ho16⟩; refine Hid.out ?_)
      refine hid ?_
      have hz16 := hg16.size
      have HK16 := hid (HK15.out.trans (grown_to hg16 (by omega) (fun k hk => by have := (HO7.out.lt k hk).1; omega)))
      have HO16 := hid ho16
      clear hg16 ho16
      go_wp2_with (go_at_call 33; refine (held_writes 1 n (by omega) _ _ (wrow_own (imarks_len 1 (2 * n)) HO16.out)).mono ?_; rintro e w17 ⟨rfl, hb17⟩; refine Hid.out ?_)
      refine hid ?_
      have hz17 := hb17.size
      have HK17 := hid (HK16.out.trans (hb17.mono HK16.out.size))
      have HO17 := hid (own_below HO16.out hb17)
      have HC17 := hid ((HK17.out.block _ (by omega)).trans HC4.out)
      have HB17 := hid (HB4.out.trans (HK17.out.mono HB4.out.size))
      clear hb17
      obtain ⟨k0, k1⟩ := var_cells HC17.out
      go_wp2_with (go_at_call 27; refine (to_nv s l hl _ _ (HA.out.on HB17.out)).mono ?_; rintro e w18 ⟨sv18, rfl, hb18, ho18⟩; refine Hid.out ?_)
      refine hid ?_
      have hz18 := hb18.size
      have HR18 := hid (row_in_own ho18)
      have HB18 := hid (HB17.out.trans (hb18.mono HB17.out.size))
      have HK18 := hid (HK17.out.trans (hb18.mono HK17.out.size))
      have HO18 := hid (own_below HO17.out hb18)
      clear hb18 ho18 k0 k1
      go_wp2_with (go_at_call 19; refine (to_ints vs hvl _ _ (HBV.out.on HB18.out)).mono ?_; rintro e w19 ⟨rfl, hb19, ho19⟩; refine Hid.out ?_)
      refine hid ?_
      have hz19 := hb19.size
      have HR19 := hid (row_in_own ho19)
      have HQ19 := hid (HR18.out.on hb19)
      have HK19 := hid (HK18.out.trans (hb19.mono HK18.out.size))
      have HO19 := hid (own_below HO18.out hb19)
      clear hb19 ho19
      go_wp2_with (go_at_call 30; refine (CI.out _ _ _ HQ19.out HR19.out).mono ?_; rintro e w20 ⟨sv20, rfl, hb20, ho20⟩; refine Hid.out ?_)
      refine hid ?_
      obtain ⟨p20, c20, rfl⟩ := own_slice ho20
      have hz20 := hb20.size
      have HR20 := hid (wrow_own HFL.out ho20)
      have HK20 := hid (HK19.out.trans (hb20.mono HK19.out.size))
      have HO20 := hid (own_below HO19.out hb20)
      clear hb20 ho20
      go_wp2_with (go_at_call 31; refine (eq_writes n F (by omega) _ _ _ HR20.out (HF4.out.on HK20.out)).mono ?_; rintro e w21 ⟨rfl, hb21⟩; refine Hid.out ?_)
      refine hid ?_
      have hz21 := hb21.size
      have HK21 := hid (HK20.out.trans (hb21.mono HK20.out.size))
      have HO21 := hid (own_below HO20.out hb21)
      clear hb21
      go_wp2_with (go_at_call 33; refine (held_writes 1 n (by omega) _ _ (wrow_own (imarks_len 1 (2 * n)) HO21.out)).mono ?_; rintro e w22 ⟨rfl, hb22⟩; refine Hid.out ?_)
      refine hid ?_
      have HB22 := hid (HB4.out.trans ((HK21.out.trans (hb22.mono HK21.out.size)).mono HB4.out.size))
      clear hb22
      go_wp2
      go_ret
      exact ⟨rfl, HB22.out⟩
    · rw [if_neg hl] at CZ
      have HWAe := hid hWA
      clear hWA
      go_enter Try.func7, Try.ntmps7
      go_wp2_with (go_at_call 25; rw [← HWAe.out]; refine (CZ.out _ _ (HA.out.on HWA.out)).mono ?_; rintro e w1 ⟨rfl, hb1⟩; refine Hid.out ?_)
      refine hid ?_
      have HB1 := hid (HWA.out.trans (hb1.mono HWA.out.size))
      clear hb1
      go_wp2
      go_ret
      exact ⟨rfl, HB1.out⟩
  · have hdv : (vs.length : Int) > 1048576 := by omega
    go_enter Try.func7, Try.ntmps7
    go_wp2
    go_ret
    exact ⟨rfl, (Below.refl _ _).alloc (Nat.le_refl _) _⟩
end Go.Proofs.Ythhmjcojkgoekaa
