/- The law on NvNew, walked: it answers true. -/
import Derived.Test.YthhmjcojkgoekaaNvHelp
namespace Go.Proofs.Ythhmjcojkgoekaa
open Go.RowKit
open Go.Lib (hid)

/-- What NvNew answers: the size, the words, and whether. -/
def newOut (l : List Int) : Int × List Int × Bool := if valsB l l.length then (l.length, newWords l, true) else (0, [], false)

def NewPost (l : List Int) (w : World) (e : Ending) (w' : World) : Prop :=
  ∃ sv, e = .returned (.tuple #[.agg #[.int .i64 (newOut l).1, sv], .bool (newOut l).2.2]) ∧ Below w.heap.size w w' ∧ w'.ownsRow w.heap.size 2 1 sv (newOut l).2.1.length (ints (newOut l).2.1)

theorem new_impl (l : List Int) (hl : l.length ≤ 1048576) (a : Value) (w : World) (ha : RowIn w a l) : Calls Try.prog 17 #[a] w (NewPost l w) := by
  unfold NewPost newOut
  by_cases h : valsB l l.length = true
  · rw [if_pos h]
    exact (nvNew_yes l (valsB_iff.1 h) a w ha).mono fun e w' ⟨g, he, hb, ho⟩ => ⟨_, he, hb, ho⟩
  · rw [if_neg h]
    exact (nvNew_no l hl (by simpa using h) a w ha).mono fun e w' ⟨he, hb⟩ => ⟨_, he, hb, World.ownsRow_nil _ _ _ _⟩

theorem new_spec (l : List Int) (hl : l.length ≤ 1048576) (a : Value) (w : World) (ha : RowIn w a l) (hnil : ∀ c, a = .slice none l.length c → c = 0) : Calls Try.prog 18 #[a] w (NewPost l w) := by
  unfold NewPost newOut
  by_cases h : valsB l l.length = true
  · rw [if_pos h]
    exact (specNew_yes l (valsB_iff.1 h) a w ha hnil).mono fun e w' ⟨sv, he, hb, ho⟩ => ⟨_, he, hb, ho⟩
  · rw [if_neg h]
    exact (specNew_no l hl (by simpa using h) a w ha).mono fun e w' ⟨he, hb⟩ => ⟨_, he, hb, World.ownsRow_nil _ _ _ _⟩

theorem newOut_few (l : List Int) : (newOut l).2.1.length ≤ 44 := by
  unfold newOut
  split
  · rename_i h
    obtain ⟨_, h2, _, _⟩ := valsB_iff.1 h
    show (newWords l).length ≤ 44
    rw [newWords_len]
    omega
  · exact Nat.zero_le _

set_option maxRecDepth 20000 in
set_option maxHeartbeats 2000000 in
theorem law_calls (l : List Int) (a : Value) (w : World) (ha : ArgInts w a l) :
    Calls Try.prog 5 #[a] w fun e w' => e = .returned (.bool true) ∧ Below w.heap.size w w' := by
  have HA := hid ha
  obtain ⟨p0, c0, rfl, _⟩ := ha
  by_cases hl : l.length ≤ 1048576
  · have hd : ¬ (l.length : Int) > 1048576 := by omega
    have hfew := newOut_few l
    have CI := hid (fun a w ha => new_impl l hl a w ha)
    have CS := hid (fun a w ha hn => new_spec l hl a w ha hn)
    unfold NewPost at CI CS
    generalize (newOut l).1 = s at *
    generalize (newOut l).2.1 = L at *
    generalize (newOut l).2.2 = b at *
    have hbb : (b != b) = false := by cases b <;> rfl
    go_enter Try.func5, Try.ntmps5
    go_wp2_with (go_at_call 19; refine (to_ints l hl _ _ HA.out).mono ?_; rintro e w1 ⟨rfl, hb1, ho1⟩; refine Hid.out ?_)
    refine hid ?_
    have HB1 := hid hb1
    have HR1 := hid (row_in_own ho1)
    clear hb1 ho1
    go_wp2_with (go_at_call 18; refine (CS.out _ _ HR1.out (fun c h => by cases h)).mono ?_; rintro e w2 ⟨sv2, rfl, hb2, ho2⟩; refine Hid.out ?_)
    refine hid ?_
    obtain ⟨p2, c2, rfl, _, _⟩ := row_in_own ho2
    have HB2 := hid (HB1.out.trans (hb2.mono HB1.out.size))
    obtain ⟨W0, hW0⟩ : ∃ W0, W0 = w2.alloc (.cells #[.int .i64 s, .slice p2 L.length c2] 26) := ⟨_, rfl⟩
    have hal0 : Below w2.heap.size w2 W0 := by rw [hW0]; exact (Below.refl _ _).alloc (Nat.le_refl _) _
    have K0 : Hid (Below w.heap.size w W0) := hid (HB2.out.trans (hal0.mono HB2.out.size))
    have hz0 : W0.heap.size = w2.heap.size + 1 := by rw [hW0]; simp
    have R0 := hid ((row_in_own ho2).on hal0)
    have C0 : Hid (W0.heap[w2.heap.size]? = some (.cells #[.int .i64 s, .slice p2 L.length c2] 26)) := hid (by rw [hW0]; exact heap_alloc_new _ _)
    have k0 : ∀ W : World, Below W0.heap.size W0 W → W.cell? ⟨w2.heap.size, 0, none⟩ = some (.int .i64 s) := fun W hW => (var_cells ((hW.block _ (by omega)).trans C0.out)).1
    have k1 : ∀ W : World, Below W0.heap.size W0 W → W.cell? ⟨w2.heap.size, 1, none⟩ = some (.slice p2 L.length c2) := fun W hW => (var_cells ((hW.block _ (by omega)).trans C0.out)).2
    have HW0 := hid hW0
    have hlt0 : w2.heap.size < W0.heap.size := by omega
    clear hb2 ho2 hal0 hW0 hz0
    go_wp2_with (go_at_call 19; rw [← HW0.out]; refine (to_ints l hl _ _ (HA.out.on K0.out)).mono ?_; rintro e w3 ⟨rfl, hb3, ho3⟩; refine Hid.out ?_)
    refine hid ?_
    have hz3 := hb3.size
    have HX3 := hid ho3
    have HK3 := hid hb3
    clear hb3 ho3
    have hg3 := (HX3.out.lt W0.heap.size rfl).2
    go_wp2_with (go_at_call 17; refine (CI.out _ _ (row_in_own HX3.out)).mono ?_; rintro e w4 ⟨sv4, rfl, hb4, ho4⟩; refine Hid.out ?_)
    refine hid ?_
    have hz4 := hb4.size
    have hk4 := HK3.out.trans (hb4.mono hz3)
    have q4 : w2.heap.size < w4.heap.size := by omega
    obtain ⟨p4, c4, rfl, _, _⟩ := row_in_own ho4
    have HO4 := hid ho4
    have HX4 := hid (own_below HX3.out hb4)
    have HAL4 : Hid (Below w4.heap.size w4 (w4.alloc (.cells #[.int .i64 s, .slice p4 L.length c4] 26))) := hid ((Below.refl _ _).alloc (Nat.le_refl _) _)
    clear hb4 ho4
    go_wp2_with (go_at_call 20; refine (eq_nv s L (by omega) _ _ _ ((row_in_own HO4.out).on HAL4.out) (R0.out.on (hk4.trans (HAL4.out.mono (by omega))))).mono ?_; rintro e w5 ⟨rfl, hb5⟩; refine Hid.out ?_)
    refine hid ?_
    have hz5 := hb5.size
    simp only [World.size_alloc] at hz5
    have HV5 : Hid (w5.heap[w4.heap.size]? = some (.cells #[.int .i64 s, .slice p4 L.length c4] 26)) := hid ((hb5.block _ (by simp)).trans (heap_alloc_new _ _))
    have HB45 := hid (HAL4.out.trans (hb5.mono (by simp)))
    have HK5 := hid (hk4.trans (HB45.out.mono (by omega)))
    have HX5 := hid (own_below HX4.out HB45.out)
    have HO5 := hid (own_below HO4.out HB45.out)
    clear hb5 hk4
    go_wp2_with (go_at_call 19; refine (to_ints l hl _ _ (HA.out.on (K0.out.trans (HK5.out.mono K0.out.size)))).mono ?_; rintro e w6 ⟨rfl, hb6, ho6⟩; refine Hid.out ?_)
    refine hid ?_
    have hz6 := hb6.size
    have HR6 := hid (row_in_own ho6)
    have HX6 := hid (own_below HX5.out hb6)
    have HB6 := hid hb6
    clear hb6 ho6
    go_wp2_with (go_at_call 21; refine (eq_ints l (by omega) _ _ _ (row_in_own HX6.out) HR6.out).mono ?_; rintro e w7 ⟨rfl, hb7⟩; refine Hid.out ?_)
    refine hid ?_
    have hz7 := hb7.size
    have HB57 := hid (HB6.out.trans (hb7.mono hz6))
    have HX7 := hid (own_below HX6.out hb7)
    clear hb7
    go_wp2_with (go_at_call 22; refine (mark_ints l 1 (by omega) _ _ _ HX7.out).mono ?_; rintro e w8 ⟨rfl, hg8, _⟩; refine Hid.out ?_)
    refine hid ?_
    have hz8 := hg8.size
    have HG8 := hid hg8
    have hk8 : Below W0.heap.size W0 w8 := (HK5.out.trans (HB57.out.mono (by omega))).trans (grown_to hg8 (by omega) (fun k hk => by cases hk; exact Nat.le_refl _))
    have HO8 := hid ((own_below HO5.out HB57.out).kept hg8 (by
      cases hb : (Value.slice p4 L.length c4).ownBlock with
      | none => exact Or.inl rfl
      | some k =>
        have := (HO5.out.lt k hb).1
        refine Or.inr (fun e => ?_)
        have e2 : k = W0.heap.size := Option.some.inj e
        omega))
    have HV8 : Hid (w8.heap[w4.heap.size]? = some (.cells #[.int .i64 s, .slice p4 L.length c4] 26)) := hid ((hg8.block _ (by omega) (fun e => by have e2 : w4.heap.size = W0.heap.size := Option.some.inj e; omega)).trans ((HB57.out.block _ (by omega)).trans HV5.out))
    obtain ⟨v0, v1⟩ := var_cells HV8.out
    clear hg8
    go_wp2_with (go_at_call 20; refine (eq_nv s L (by omega) _ _ _ (row_in_own HO8.out) (R0.out.on hk8)).mono ?_; rintro e w9 ⟨rfl, hb9⟩; refine Hid.out ?_)
    refine hid ?_
    have hz9 := hb9.size
    have HO9 := hid (own_below HO8.out hb9)
    have HV9 := hid ((hb9.block _ (by omega)).trans HV8.out)
    have HK9 := hid (hk8.trans (hb9.mono (by omega)))
    clear hb9 hk8 v0 v1
    obtain ⟨v0, v1⟩ := var_cells HV9.out
    go_wp2_with (go_at_call 23; refine (mark_nv s L 1 (by omega) _ _ _ HO9.out).mono ?_; rintro e w10 ⟨rfl, hg10, ho10⟩; refine Hid.out ?_)
    refine hid ?_
    have hz10 := hg10.size
    have HO10 := hid ho10
    have HV10 := hid ((hg10.block w4.heap.size (by omega) (fun e => by have := (HO5.out.lt _ e.symm).2; have := (HO4.out.lt _ e.symm).2; omega)).trans HV9.out)
    have HK10 := hid (HK9.out.trans (grown_to hg10 (by omega) (fun k hk => by have := (HO4.out.lt k hk).1; omega)))
    clear hg10 ho10 v0 v1
    obtain ⟨v0, v1⟩ := var_cells HV10.out
    go_wp2_with (go_at_call 24; refine (held_nv s 1 L.length (by omega) _ _ (row_in_own2 (imarks_len 1 L.length).symm HO10.out)).mono ?_; rintro e w11 ⟨rfl, hb11⟩; refine Hid.out ?_)
    refine hid ?_
    have hz11 := hb11.size
    have HO11 := hid (own_below HO10.out hb11)
    have HV11 := hid ((hb11.block _ (by omega)).trans HV10.out)
    have HK11 := hid (HK10.out.trans (hb11.mono (by omega)))
    clear hb11 v0 v1
    go_wp2_with (go_at_call 19; refine (to_ints l hl _ _ (HA.out.on (K0.out.trans (HK11.out.mono K0.out.size)))).mono ?_; rintro e w12 ⟨rfl, hb12, ho12⟩; refine Hid.out ?_)
    refine hid ?_
    have hz12 := hb12.size
    have HR12 := hid (row_in_own ho12)
    have HB12 := hid hb12
    clear hb12 ho12
    go_wp2_with (go_at_call 17; refine (CI.out _ _ HR12.out).mono ?_; rintro e w13 ⟨sv13, rfl, hb13, ho13⟩; refine Hid.out ?_)
    refine hid ?_
    obtain ⟨p13, c13, rfl, _, _⟩ := row_in_own ho13
    have hz13 := hb13.size
    have HO13 := hid (own_below HO11.out (HB12.out.trans (hb13.mono hz12)))
    have HV13 := hid (((HB12.out.trans (hb13.mono hz12)).block _ (by omega)).trans HV11.out)
    have hk13 := HK11.out.trans ((HB12.out.trans (hb13.mono hz12)).mono (by omega))
    have HR13 := hid (row_in_own ho13)
    have q13 : w2.heap.size < w13.heap.size := by omega
    have HAL13 : Hid (Below w13.heap.size w13 (w13.alloc (.cells #[.int .i64 s, .slice p13 L.length c13] 26))) := hid ((Below.refl _ _).alloc (Nat.le_refl _) _)
    clear hb13 ho13
    go_wp2_with (go_at_call 20; refine (eq_nv s L (by omega) _ _ _ (HR13.out.on HAL13.out) (R0.out.on (hk13.trans (HAL13.out.mono (by omega))))).mono ?_; rintro e w14 ⟨rfl, hb14⟩; refine Hid.out ?_)
    refine hid ?_
    have hz14 := hb14.size
    simp only [World.size_alloc] at hz14
    have HB14 := hid (HAL13.out.trans (hb14.mono (by simp)))
    have HV14 := hid ((HB14.out.block _ (by omega)).trans HV13.out)
    have HO14 := hid (own_below HO13.out HB14.out)
    have HK14 := hid (hk13.trans (HB14.out.mono (by omega)))
    clear hb14 hk13
    obtain ⟨v0, v1⟩ := var_cells HV14.out
    go_wp2_with (go_at_call 24; refine (held_nv s 1 L.length (by omega) _ _ (row_in_own2 (imarks_len 1 L.length).symm HO14.out)).mono ?_; rintro e w15 ⟨rfl, hb15⟩; refine Hid.out ?_)
    refine hid ?_
    have HB15 := hid (K0.out.trans ((HK14.out.trans (hb15.mono (by omega))).mono K0.out.size))
    clear hb15
    go_wp2
    go_ret
    exact ⟨rfl, HB15.out⟩
  · have hd : (l.length : Int) > 1048576 := by omega
    go_enter Try.func5, Try.ntmps5
    go_wp2
    go_ret
    exact ⟨rfl, Below.refl _ _⟩
end Go.Proofs.Ythhmjcojkgoekaa
