/- The law on Looks, walked: it answers true. -/
import Derived.Test.YtemjfhgjdiijkaaDoorLooksBoth
import Derived.Test.YtemjfhgjdiijkaaDoorRowImage
import Derived.Test.YtemjfhgjdiijkaaDoorLawKit
namespace Go.Proofs.YtemjfhgjdiijkaaDoor
open Go.RowKit
open Go.Lib (hid)

set_option maxRecDepth 20000 in
set_option maxHeartbeats 4000000 in
theorem law_looks (s : ByteArray) (w : World) (hT : Tab w) (hG : 0 < w.heap.size) (hL : Num.Laid w) :
    Calls Tryd.prog 7 #[.string s] w fun e w' => e = .returned (.bool true) ∧ Below w.heap.size w w' := by
  have HTAB := hid hT
  have HLD := hid hL
  clear hT hL
  by_cases h1 : s.size ≤ 1048576
  · have g1 : ¬ (s.size : Int) > 1048576 := by omega
    have CS := hid (fun W => looks_spec s h1 W)
    have CI := hid (fun W hT hG hL => looks_impl s W hT hG hL)
    unfold LooksPost at CS CI
    generalize looksO s = r at *
    obtain ⟨rb, rl, rn, rv⟩ := r
    dsimp only at CS CI
    generalize bytesOf rn = nm at *
    have hbb : (rb != rb) = false := by cases rb <;> rfl
    have hll : (rl != rl) = false := by simp
    have HB0_0 : Hid (Below w.heap.size w w) := hid (Below.refl _ _)
    have hz0 : w.heap.size ≤ w.heap.size := Nat.le_refl _
    go_enter Tryd.func7, Tryd.ntmps7
    go_wp2_with (go_at_call 24; refine (CS.out _).mono ?_; rintro e w1 ⟨rfl, hb1⟩; refine Hid.out ?_)
    refine hid ?_
    have hz1 := hb1.size
    have HB0_1 := hid (HB0_0.out.trans (hb1.mono HB0_0.out.size))
    clear hb1
    obtain ⟨w2, hw2⟩ : ∃ W, W = w1.alloc (.cells #[.string nm, .int .i64 rv] 43) := ⟨_, rfl⟩
    have hb2 : Below w1.heap.size w1 w2 := by rw [hw2]; exact (Below.refl _ _).alloc (Nat.le_refl _) _
    have hz2 : w1.heap.size < w2.heap.size := by rw [hw2]; simp
    have HVW_2 : Hid (w2.heap[w1.heap.size]? = some (.cells #[.string nm, .int .i64 rv] 43)) := hid (by rw [hw2]; exact heap_alloc_new _ _)
    have HW2 := hid hw2
    have HB0_2 := hid (HB0_1.out.trans (hb2.mono HB0_1.out.size))
    clear HB0_1
    clear hw2 hb2
    go_wp2_with (go_at_call 25; rw [← HW2.out]; refine (CI.out _ (tab_on HTAB.out hG HB0_2.out) (Nat.lt_of_lt_of_le hG HB0_2.out.size) (HLD.out.on HB0_2.out)).mono ?_; rintro e w3 ⟨rfl, hb3⟩; refine Hid.out ?_)
    refine hid ?_
    have hz3 := hb3.size
    have HB0_3 := hid (HB0_2.out.trans (hb3.mono HB0_2.out.size))
    have HVW_3 := hid ((hb3.block _ (by omega)).trans HVW_2.out)
    clear HB0_2 HVW_2
    clear hb3
    obtain ⟨w4, hw4⟩ : ∃ W, W = w3.alloc (.cells #[.string nm, .int .i64 rv] 43) := ⟨_, rfl⟩
    have hb4 : Below w3.heap.size w3 w4 := by rw [hw4]; exact (Below.refl _ _).alloc (Nat.le_refl _) _
    have hz4 : w3.heap.size < w4.heap.size := by rw [hw4]; simp
    have HVG_4 : Hid (w4.heap[w3.heap.size]? = some (.cells #[.string nm, .int .i64 rv] 43)) := hid (by rw [hw4]; exact heap_alloc_new _ _)
    have HW4 := hid hw4
    have HB0_4 := hid (HB0_3.out.trans (hb4.mono HB0_3.out.size))
    have HVW_4 := hid ((hb4.block _ (by omega)).trans HVW_3.out)
    clear HB0_3
    clear hw4 hb4
    have kz_W : w1.heap.size < w3.heap.size := by omega
    have k_W_0 := (cell_of_row _ _ 0 _ _ _ HVW_3.out).trans rfl
    have k_W_1 := (cell_of_row _ _ 1 _ _ _ HVW_3.out).trans rfl
    go_wp2_with (go_at_call 26; rw [← HW4.out]; refine (eq_Image nm rv _).mono ?_; rintro e w5 ⟨rfl, hb5⟩; refine Hid.out ?_)
    refine hid ?_
    clear kz_W k_W_0 k_W_1
    clear HVW_3
    have hz5 := hb5.size
    have HB0_5 := hid (HB0_4.out.trans (hb5.mono HB0_4.out.size))
    have HVW_5 := hid ((hb5.block _ (by omega)).trans HVW_4.out)
    have HVG_5 := hid ((hb5.block _ (by omega)).trans HVG_4.out)
    clear HB0_4 HVW_4 HVG_4
    clear hb5
    go_wp2
    go_ret
    exact ⟨rfl, HB0_5.out⟩
  · have hd : (s.size : Int) > 1048576 := by omega
    go_enter Tryd.func7, Tryd.ntmps7
    go_wp2
    go_ret
    exact ⟨rfl, Below.refl _ _⟩
end Go.Proofs.YtemjfhgjdiijkaaDoor
