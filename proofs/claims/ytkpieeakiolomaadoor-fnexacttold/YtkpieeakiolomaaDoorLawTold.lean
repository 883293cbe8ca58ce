/- The law on Told, walked: it answers true. -/
import Derived.Test.YtkpieeakiolomaaDoorToldBoth
namespace Go.Proofs.YtkpieeakiolomaaDoor
open Go.RowKit
open Go.Lib (hid)

set_option maxRecDepth 20000 in
set_option maxHeartbeats 2000000 in
theorem law_told (s : ByteArray) (w : World) (hT : Tab w) (hG : 0 < w.heap.size) :
    Calls Tryd.prog 8 #[.string s] w fun e w' => e = .returned (.bool true) ∧ Below w.heap.size w w' := by
  have HTAB := hid hT
  by_cases h1 : s.size ≤ 1048576
  · have g1 : ¬ (s.size : Int) > 1048576 := by omega
    have CS := hid (fun W => told_spec s h1 W)
    have CI := hid (fun W hT hG => told_impl s W hT hG)
    unfold MadeOut at CS CI
    generalize (toldO s).1 = b at *
    obtain ⟨y, hy⟩ : ∃ y : ByteArray, (if b = true then bytesOf (toldO s).2 else ⟨#[]⟩) = y := ⟨_, rfl⟩
    rw [hy] at CS CI
    have hyy : (y.toList == y.toList) = true := by simp
    have hbb : (b != b) = false := by cases b <;> rfl
    clear hT hy
    have HB0_0 : Hid (Below w.heap.size w w) := hid (Below.refl _ _)
    have hz0 : w.heap.size ≤ w.heap.size := Nat.le_refl _
    go_enter Tryd.func8, Tryd.ntmps8
    go_wp2_with (go_at_call 31; refine (CS.out _).mono ?_; rintro e w1 ⟨rfl, hb1⟩; refine Hid.out ?_)
    refine hid ?_
    have hz1 := hb1.size
    have HB0_1 := hid (HB0_0.out.trans (hb1.mono HB0_0.out.size))
    clear hb1
    go_wp2_with (go_at_call 32; refine (CI.out _ (tab_on HTAB.out hG HB0_1.out) (Nat.lt_of_lt_of_le hG HB0_1.out.size)).mono ?_; rintro e w2 ⟨rfl, hb2⟩; refine Hid.out ?_)
    refine hid ?_
    have hz2 := hb2.size
    have HB0_2 := hid (HB0_1.out.trans (hb2.mono HB0_1.out.size))
    clear HB0_1
    clear hb2
    go_wp2
    go_ret
    exact ⟨rfl, HB0_2.out⟩
  · have hd : (s.size : Int) > 1048576 := by omega
    go_enter Tryd.func8, Tryd.ntmps8
    go_wp2
    go_ret
    exact ⟨rfl, Below.refl _ _⟩
end Go.Proofs.YtkpieeakiolomaaDoor
