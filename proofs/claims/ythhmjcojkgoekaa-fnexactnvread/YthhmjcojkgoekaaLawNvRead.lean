/- The law on NvRead, walked: it answers true. -/
import Derived.Test.YthhmjcojkgoekaaNvRHelp
import Derived.Test.YthhmjcojkgoekaaNvSpecRead2
import Derived.Deep.RegionHeld3
namespace Go.Proofs.Ythhmjcojkgoekaa
open Go.RowKit
open Go.Lib (hid)

theorem readOut_few (s : Int) (l : List Int) (hl : l.length ≤ 1048576) : (readOut s l).1.length ≤ 1048576 := by
  unfold readOut
  split
  · split
    · exact Nat.zero_le _
    · show (cpN (copyOf l _ _)).length ≤ _
      unfold cpN copyOf
      split <;> simp <;> omega
  · exact Nat.zero_le _

set_option maxRecDepth 20000 in
set_option maxHeartbeats 4000000 in
theorem law_read_calls (s : Int) (l : List Int) (hm : l.length ≤ maxLen) (a : Value) (w : World) (ha : ArgInts w a l) :
    Calls Try.prog 6 #[.agg #[.int .i64 s, a]] w fun e w' => e = .returned (.bool true) ∧ Below w.heap.size w w' := by
  have HA := hid ha
  have CZ := hid (fun a W (hW : ArgInts W a l) => sz_nv s l hm 1048576 (Nat.le_refl _) a W hW)
  obtain ⟨p0, c0, rfl, _⟩ := ha
  obtain ⟨WA, hWA⟩ : ∃ WA, WA = w.alloc (.cells #[.int .i64 s, .slice p0 l.length c0] 40) := ⟨_, rfl⟩
  have HWA : Hid (Below w.heap.size w WA) := hid (by rw [hWA]; exact (Below.refl _ _).alloc (Nat.le_refl _) _)
  have HCA : Hid (WA.heap[w.heap.size]? = some (.cells #[.int .i64 s, .slice p0 l.length c0] 40)) := hid (by rw [hWA]; exact heap_alloc_new _ _)
  have hzA : WA.heap.size = w.heap.size + 1 := by rw [hWA]; simp
  by_cases hl : l.length ≤ 1048576
  · rw [if_pos hl] at CZ
    have hd : ¬ ((1048576 - l.length : Nat) : Int) < 0 := by omega
    generalize ((1048576 - l.length : Nat) : Int) = z at *
    have hfew := readOut_few s l hl
    have CI := hid (fun a w ha => read_impl s l hl a w ha)
    have CS := hid (fun a w ha => read_spec s l hl a w ha)
    unfold ReadPost at CI CS
    generalize (readOut s l).2.1 = c at *
    generalize (readOut s l).2.2 = b at *
    generalize (readOut s l).1 = L at *
    have hbb : (b != b) = false := by cases b <;> rfl
    have HWAe := hid hWA
    clear hWA
    go_enter Try.func6, Try.ntmps6
    go_wp2_with (go_at_call 25; rw [← HWAe.out]; refine (CZ.out _ _ (HA.out.on HWA.out)).mono ?_; rintro e w1 ⟨rfl, hb1⟩; refine Hid.out ?_)
    refine hid ?_
    have HC1 := hid ((hb1.block _ (by omega)).trans HCA.out)
    have HB1 := hid (HWA.out.trans (hb1.mono HWA.out.size))
    have hz1 := hb1.size
    obtain ⟨k0, k1⟩ := var_cells HC1.out
    clear hb1
    go_wp2_with (go_at_call 27; refine (to_nv s l hl _ _ (HA.out.on HB1.out)).mono ?_; rintro e w2 ⟨sv2, rfl, hb2, ho2⟩; refine Hid.out ?_)
    refine hid ?_
    have HR2 := hid (row_in_own ho2)
    have HC2 := hid ((hb2.block _ (by omega)).trans HC1.out)
    have HB2 := hid (HB1.out.trans (hb2.mono HB1.out.size))
    have hz2 := hb2.size
    clear hb2 ho2 k0 k1
    go_wp2_with (go_at_call 26; refine (CS.out _ _ HR2.out).mono ?_; rintro e w3 ⟨sv3, rfl, hb3, ho3⟩; refine Hid.out ?_)
    refine hid ?_
    have HR3 := hid (row_in_own ho3)
    have HC3 := hid ((hb3.block _ (by omega)).trans HC2.out)
    have HB3 := hid (HB2.out.trans (hb3.mono HB2.out.size))
    have hz3 := hb3.size
    obtain ⟨p3, c3, rfl, _, _⟩ := row_in_own ho3
    obtain ⟨k0, k1⟩ := var_cells HC3.out
    clear hb3 ho3
    go_wp2_with (go_at_call 27; refine (to_nv s l hl _ _ (HA.out.on HB3.out)).mono ?_; rintro e w4 ⟨sv4, rfl, hb4, ho4⟩; refine Hid.out ?_)
    refine hid ?_
    obtain ⟨p4, c4, rfl, _, _⟩ := row_in_own ho4
    have hz4 := hb4.size
    have HX4 := hid ho4
    have HK4 := hid hb4
    have HB4 := hid (HB3.out.trans (hb4.mono HB3.out.size))
    have HC4 := hid ((hb4.block _ (by omega)).trans HC3.out)
    obtain ⟨WX, hWX⟩ : ∃ WX, WX = w4.alloc (.cells #[.int .i64 s, .slice p4 l.length c4] 26) := ⟨_, rfl⟩
    have HAX : Hid (Below w4.heap.size w4 WX) := hid (by rw [hWX]; exact (Below.refl _ _).alloc (Nat.le_refl _) _)
    have HVX : Hid (WX.heap[w4.heap.size]? = some (.cells #[.int .i64 s, .slice p4 l.length c4] 26)) := hid (by rw [hWX]; exact heap_alloc_new _ _)
    have hzX : WX.heap.size = w4.heap.size + 1 := by rw [hWX]; simp
    have HWXe := hid hWX
    clear hWX hb4 ho4 k0 k1
    go_wp2_with (go_at_call 15; rw [← HWXe.out]; refine (CI.out _ _ ((row_in_own HX4.out).on HAX.out)).mono ?_; rintro e w5 ⟨sv5, rfl, hb5, ho5⟩; refine Hid.out ?_)
    refine hid ?_
    obtain ⟨p5, c5, rfl, _, _⟩ := row_in_own ho5
    have hz5 := hb5.size
    have HV5 := hid ((hb5.block _ (by omega)).trans HVX.out)
    have HK5 := hid (HK4.out.trans ((HAX.out.trans (hb5.mono HAX.out.size)).mono HK4.out.size))
    have HX5 := hid (own_below (own_below HX4.out HAX.out) hb5)
    have HO5 := hid ho5
    clear hb5 ho5
    go_wp2_with (go_at_call 21; refine (eq_ints L (by omega) _ _ _ (row_in_own HO5.out) (HR3.out.on HK5.out)).mono ?_; rintro e w6 ⟨rfl, hb6⟩; refine Hid.out ?_)
    refine hid ?_
    have hz6 := hb6.size
    have HV6 := hid ((hb6.block _ (by omega)).trans HV5.out)
    have HK6 := hid (HK5.out.trans (hb6.mono HK5.out.size))
    have HX6 := hid (own_below HX5.out hb6)
    have HO6 := hid (own_below HO5.out hb6)
    have HC6 := hid ((HK6.out.block _ (by omega)).trans HC3.out)
    clear hb6
    obtain ⟨k0, k1⟩ := var_cells HC6.out
    obtain ⟨v0, v1⟩ := var_cells HV6.out
    clear v0 v1 k0 k1
    have HARG6 := hid (HA.out.on (HB3.out.trans (HK6.out.mono HB3.out.size)))
    have CT := hid (fun W (h : Below w6.heap.size w6 W) => to_nv s l hl _ W (HARG6.out.on h))
    have CE := hid (fun sv W (h : Below w6.heap.size w6 W) (hr : RowIn W sv l) => eq_nv s l (by omega) _ sv W ((row_in_own HX6.out).on h) hr)
    have k0 : ∀ W : World, Below w6.heap.size w6 W → W.cell? ⟨w.heap.size, 0, none⟩ = some (.int .i64 s) := fun W hW => (var_cells ((hW.block _ (by omega)).trans HC6.out)).1
    have k1 : ∀ W : World, Below w6.heap.size w6 W → W.cell? ⟨w.heap.size, 1, none⟩ = some (.slice p0 l.length c0) := fun W hW => (var_cells ((hW.block _ (by omega)).trans HC6.out)).2
    have v0 : ∀ W : World, Below w6.heap.size w6 W → W.cell? ⟨w4.heap.size, 0, none⟩ = some (.int .i64 s) := fun W hW => (var_cells ((hW.block _ (by omega)).trans HV6.out)).1
    have v1 : ∀ W : World, Below w6.heap.size w6 W → W.cell? ⟨w4.heap.size, 1, none⟩ = some (.slice p4 l.length c4) := fun W hW => (var_cells ((hW.block _ (by omega)).trans HV6.out)).2
    go_wp2
    go_region_held3 (fun w' => Below w6.heap.size w6 w') (first | with_reducible assumption | exact Below.drew (Below.refl _ _) | exact below_step (by assumption) (by simp) (by assumption)) ((first | (go_at_call_of 27 (Value.agg #[Value.int .i64 s, Value.slice p0 l.length c0]); refine (CT.out _ (by assumption)).mono ?_; rintro e w7 ⟨sv7, rfl, hb7, ho7⟩) | (go_at_call 20; refine (CE.out _ _ (by assumption) (row_in_own ho7)).mono ?_; rintro e w8 ⟨rfl, hb8⟩)))
    rename_i hS
    have HS := hid hS
    have hz8 := hS.size
    have HX8 := hid (own_below HX6.out hS)
    have HO8 := hid (own_below HO6.out hS)
    have HV8 := hid ((hS.block _ (by omega)).trans HV6.out)
    have HK8 := hid (HK6.out.trans (hS.mono HK6.out.size))
    clear hS k0 k1 v0 v1 hb7 ho7 hb8
    obtain ⟨v0, v1⟩ := var_cells HV8.out
    go_wp2_with (go_at_call 23; refine (mark_nv s l 1 (by omega) _ _ _ HX8.out).mono ?_; rintro e w9 ⟨rfl, hg9, ho9⟩; refine Hid.out ?_)
    refine hid ?_
    have hz9 := hg9.size
    have HK9 := hid (HK8.out.trans (grown_to hg9 (by omega) (fun k hk => (HX4.out.lt k hk).1)))
    have HO9 := hid (HO8.out.kept hg9 (by
      cases hb : (Value.slice p5 L.length c5).ownBlock with
      | none => exact Or.inl rfl
      | some k =>
        have := (HO5.out.lt k hb).1
        refine Or.inr (fun e => ?_)
        have := (HX4.out.lt k e.symm).2
        omega))
    clear hg9 ho9 v0 v1
    go_wp2_with (go_at_call 21; refine (eq_ints L (by omega) _ _ _ (row_in_own HO9.out) (HR3.out.on HK9.out)).mono ?_; rintro e w10 ⟨rfl, hb10⟩; refine Hid.out ?_)
    refine hid ?_
    have hz10 := hb10.size
    have HK10 := hid (HK9.out.trans (hb10.mono HK9.out.size))
    have HO10 := hid (own_below HO9.out hb10)
    clear hb10
    go_wp2_with (go_at_call 22; refine (mark_ints L 1 (by omega) _ _ _ HO10.out).mono ?_; rintro e w11 ⟨rfl, hg11, ho11⟩; refine Hid.out ?_)
    refine hid ?_
    have hz11 := hg11.size
    have HK11 := hid (HK10.out.trans (grown_to hg11 (by omega) (fun k hk => by have := (HO5.out.lt k hk).1; omega)))
    have HO11 := hid ho11
    clear hg11 ho11
    go_wp2_with (go_at_call 28; refine (held_ints 1 L.length (by omega) _ _ (row_in_own2 (imarks_len 1 L.length).symm HO11.out)).mono ?_; rintro e w12 ⟨rfl, hb12⟩; refine Hid.out ?_)
    refine hid ?_
    have hz12 := hb12.size
    have HK12 := hid (HK11.out.trans (hb12.mono HK11.out.size))
    have HO12 := hid (own_below HO11.out hb12)
    have HC12 := hid ((HK12.out.block _ (by omega)).trans HC3.out)
    have HARG12 := hid (HA.out.on (HB3.out.trans (HK12.out.mono HB3.out.size)))
    clear hb12
    obtain ⟨k0, k1⟩ := var_cells HC12.out
    go_wp2_with (go_at_call 27; refine (to_nv s l hl _ _ HARG12.out).mono ?_; rintro e w13 ⟨sv13, rfl, hb13, ho13⟩; refine Hid.out ?_)
    refine hid ?_
    have hz13 := hb13.size
    have HR13 := hid (row_in_own ho13)
    have HK13 := hid (HK12.out.trans (hb13.mono HK12.out.size))
    have HO13 := hid (own_below HO12.out hb13)
    clear hb13 ho13 k0 k1
    go_wp2_with (go_at_call 15; refine (CI.out _ _ HR13.out).mono ?_; rintro e w14 ⟨sv14, rfl, hb14, ho14⟩; refine Hid.out ?_)
    refine hid ?_
    obtain ⟨p14, c14, rfl, _, _⟩ := row_in_own ho14
    have hz14 := hb14.size
    have HR14 := hid (row_in_own ho14)
    have HK14 := hid (HK13.out.trans (hb14.mono HK13.out.size))
    have HO14 := hid (own_below HO13.out hb14)
    clear hb14 ho14
    go_wp2_with (go_at_call 21; refine (eq_ints L (by omega) _ _ _ HR14.out (HR3.out.on HK14.out)).mono ?_; rintro e w15 ⟨rfl, hb15⟩; refine Hid.out ?_)
    refine hid ?_
    have hz15 := hb15.size
    have HK15 := hid (HK14.out.trans (hb15.mono HK14.out.size))
    have HO15 := hid (own_below HO14.out hb15)
    clear hb15
    go_wp2_with (go_at_call 28; refine (held_ints 1 L.length (by omega) _ _ (row_in_own2 (imarks_len 1 L.length).symm HO15.out)).mono ?_; rintro e w16 ⟨rfl, hb16⟩; refine Hid.out ?_)
    refine hid ?_
    have HB16 := hid (HB3.out.trans ((HK15.out.trans (hb16.mono HK15.out.size)).mono HB3.out.size))
    clear hb16
    go_wp2
    go_ret
    exact ⟨rfl, HB16.out⟩
  · rw [if_neg hl] at CZ
    have HWAe := hid hWA
    clear hWA
    go_enter Try.func6, Try.ntmps6
    go_wp2_with (go_at_call 25; rw [← HWAe.out]; refine (CZ.out _ _ (HA.out.on HWA.out)).mono ?_; rintro e w1 ⟨rfl, hb1⟩; refine Hid.out ?_)
    refine hid ?_
    have HB1 := hid (HWA.out.trans (hb1.mono HWA.out.size))
    clear hb1
    go_wp2
    go_ret
    exact ⟨rfl, HB1.out⟩
end Go.Proofs.Ythhmjcojkgoekaa
