/- The law on Cleared, walked: it answers true. -/
import Derived.Test.YthhmjcojkgoekaaClWalks
namespace Go.Proofs.Ythhmjcojkgoekaa
open Go.RowKit
open Go.Lib (hid)

def resetZ : List ByteArray := List.replicate 8 ⟨resetT.toArray⟩

theorem resetZ_strs : (resetZ.take 8).map Value.string = strs (resets 8) := rfl

theorem resetZ_cells (w : World) (j : Nat) (hj : j < resetZ.length) : (w.alloc (.cells resetA 92)).cell? ⟨w.heap.size, 0 + j, none⟩ = some (.string (resetZ.getD j ByteArray.empty)) := by
  rw [cell_of_row _ _ (0 + j) _ _ _ (heap_alloc_new w (.cells resetA 92)), Nat.zero_add]
  have h8 : j < 8 := by simpa [resetZ] using hj
  have : ∀ j, j < 8 → resetA[j]? = some (.string (resetZ.getD j ByteArray.empty)) := by
    intro j hj
    match j, hj with
    | 0, _ => rfl
    | 1, _ => rfl
    | 2, _ => rfl
    | 3, _ => rfl
    | 4, _ => rfl
    | 5, _ => rfl
    | 6, _ => rfl
    | 7, _ => rfl
  exact this j h8

set_option maxRecDepth 20000 in
set_option maxHeartbeats 2000000 in
theorem list_calls (w : World) : Calls Try.prog 69 #[.agg resetA] w fun e w' => ∃ sv, e = .returned sv ∧ Below w.heap.size w w' ∧ w'.ownsRow w.heap.size 9 1 sv (resets 8).length (strs (resets 8)) := by
  have CL := hid (Try.slices_Clone_string w.heap.size 0 8 8 resetZ (w.alloc (.cells resetA 92)) (by simp [resetZ]) (by decide) (resetZ_cells w))
  rw [resetZ_strs] at CL
  have HB : Hid (Below w.heap.size w (w.alloc (.cells resetA 92))) := hid ((Below.refl _ _).alloc (Nat.le_refl _) _)
  unfold resetA at *
  go_enter Try.func69, Try.ntmps69
  go_wp2_with (go_at_call 82; refine CL.out.mono ?_; rintro e w1 ⟨sv1, rfl, ho1, _, hb1⟩; refine Hid.out ?_)
  refine hid ?_
  have HB1 := hid (HB.out.trans (hb1.mono HB.out.size))
  have HO1 := hid ho1
  clear hb1 ho1
  go_wp2
  go_ret
  refine ⟨_, rfl, HB1.out, ?_⟩
  have h := HO1.out
  rw [resets_len]
  refine ⟨h.1, h.2.imp id fun ⟨g, cap, cur, a1, a2, a3⟩ => ⟨g, cap, cur, a1, Nat.le_trans (by simp) a2, a3⟩⟩

set_option maxHeartbeats 2000000 in
theorem cleared_calls (w : World) : Calls Try.prog 39 #[] w fun e w' => ∃ sv, e = .returned sv ∧ Below w.heap.size w w' ∧ w'.ownsRow w.heap.size 9 1 sv (resets 8).length (strs (resets 8)) := by
  go_enter Try.func39, Try.ntmps39
  go_wp2_with (first | (go_at_call 68; refine (clearedRegs_calls _).mono ?_; rintro e w1 ⟨rfl, hb1⟩; have HB1 := hid hb1; clear hb1) | (go_at_call 69; refine (list_calls _).mono ?_; rintro e w2 ⟨sv2, rfl, hb2, ho2⟩; have HB2 := hid (HB1.out.trans (hb2.mono HB1.out.size)); have HO2 := hid ho2; clear hb2 ho2))
  go_ret
  have h := HO2.out
  have hz := HB1.out.size
  exact ⟨_, rfl, HB2.out, h.1, h.2.imp id fun ⟨g, cap, cur, a1, a2, a3⟩ => ⟨g, cap, cur, a1, Nat.le_trans hz a2, a3⟩⟩

/-- Behind a change of one row all that lay below its base is as it was. -/
theorem grown_to {B : Nat} {v w : World} {row : Option Nat} (h : v.grownBy w row) (hB : B ≤ v.heap.size) (hr : ∀ k, row = some k → B ≤ k) : Below B v w :=
  ⟨h.os, h.tape, h.output, h.size, fun k hk => h.block k (Nat.lt_of_lt_of_le hk hB) (fun e => by have := hr k e.symm; omega)⟩

theorem marks_texts {w : World} {base n : Nat} {sv : Value} {k : Nat} (h : w.ownsRow base 9 1 sv n (strs (marks k n))) : TextsAt w sv (marks k n) := by
  refine texts_of (base := base) ?_
  rw [marks_len]
  exact h

set_option maxRecDepth 20000 in
set_option maxHeartbeats 2000000 in
theorem law_cleared_calls (w : World) : Calls Try.prog 10 #[] w fun e w' => e = .returned (.bool true) ∧ Below w.heap.size w w' := by
  have CS := hid specCleared_calls
  have CI := hid cleared_calls
  have h8 : (resets 8).length = 8 := resets_len 8
  have hl : (resets 8).length ≤ 1000000000 := by omega
  have hl1 : 1 + (resets 8).length ≤ 1000000000 := by omega
  generalize resets 8 = L at *
  clear h8
  go_enter Try.func10, Try.ntmps10
  go_wp2_with (go_at_call 38; refine (CS.out _).mono ?_; rintro e w1 ⟨sv1, rfl, hb1, ho1⟩; refine Hid.out ?_)
  refine hid ?_
  have HT1 := hid (texts_of ho1)
  have HB1 := hid hb1
  have hz1 := hb1.size
  clear hb1 ho1
  go_wp2_with (go_at_call 39; refine (CI.out _).mono ?_; rintro e w2 ⟨sv2, rfl, hb2, ho2⟩; refine Hid.out ?_)
  refine hid ?_
  have HT2 := hid (texts_of ho2)
  have HO2 := hid ho2
  have HK2 := hid hb2
  have hz2 := hb2.size
  clear hb2 ho2
  go_wp2_with (go_at_call 40; refine (eq_same L hl _ _ _ HT2.out (HT1.out.on HK2.out)).mono ?_; rintro e w3 ⟨rfl, hb3⟩; refine Hid.out ?_)
  refine hid ?_
  have hz3 := hb3.size
  have HK3 := hid (HK2.out.trans (hb3.mono HK2.out.size))
  have HO3 := hid (own_below HO2.out hb3)
  clear hb3
  go_wp2_with (go_at_call 41; refine (mark_calls L 1 (by omega) hl1 _ _ _ HO3.out).mono ?_; rintro e w4 ⟨rfl, hg4, ho4⟩; refine Hid.out ?_)
  refine hid ?_
  have hz4 := hg4.size
  have HK4 := hid (HK3.out.trans (grown_to hg4 (by omega) (fun k hk => (HO3.out.lt k hk).1)))
  have HO4 := hid ho4
  clear hg4 ho4
  go_wp2_with (go_at_call 42; refine (held_calls 1 L.length (by omega) hl1 _ _ (marks_texts HO4.out)).mono ?_; rintro e w5 ⟨rfl, hb5⟩; refine Hid.out ?_)
  refine hid ?_
  have hz5 := hb5.size
  have HK5 := hid (HK4.out.trans (hb5.mono HK4.out.size))
  have HO5 := hid (own_below HO4.out hb5)
  clear hb5
  go_wp2_with (go_at_call 39; refine (CI.out _).mono ?_; rintro e w6 ⟨sv6, rfl, hb6, ho6⟩; refine Hid.out ?_)
  refine hid ?_
  have hz6 := hb6.size
  have HT6 := hid (texts_of ho6)
  have HK6 := hid (HK5.out.trans (hb6.mono HK5.out.size))
  have HO6 := hid (own_below HO5.out hb6)
  clear hb6 ho6
  go_wp2_with (go_at_call 40; refine (eq_same L hl _ _ _ HT6.out (HT1.out.on HK6.out)).mono ?_; rintro e w7 ⟨rfl, hb7⟩; refine Hid.out ?_)
  refine hid ?_
  have hz7 := hb7.size
  have HK7 := hid (HK6.out.trans (hb7.mono HK6.out.size))
  have HO7 := hid (own_below HO6.out hb7)
  clear hb7
  go_wp2_with (go_at_call 42; refine (held_calls 1 L.length (by omega) hl1 _ _ (marks_texts HO7.out)).mono ?_; rintro e w8 ⟨rfl, hb8⟩; refine Hid.out ?_)
  refine hid ?_
  have HB8 := hid (HB1.out.trans ((HK7.out.trans (hb8.mono HK7.out.size)).mono HB1.out.size))
  clear hb8
  go_wp2
  go_ret
  exact ⟨rfl, HB8.out⟩
end Go.Proofs.Ythhmjcojkgoekaa
