/- The law on MeasureOf, walked: it answers true. -/
import Derived.Test.YtnlnfjchnjdfoaaDoorMeasBoth
import Derived.Test.YtnlnfjchnjdfoaaDoorRowImage
import Derived.Test.YtnlnfjchnjdfoaaDoorLawKit
namespace Go.Proofs.YtnlnfjchnjdfoaaDoor
open Go.RowKit
open Go.Lib (hid)

set_option maxRecDepth 20000 in
set_option maxHeartbeats 2000000 in
theorem law_measureof (layer : Int) (name : ByteArray) (hn : name.size ≤ 9223372036854775807) (ver : Int) (w : World) (hT : Tab w) (hG : 0 < w.heap.size) (hP : Lib.TabIs Tryd.prog w "internal/strconv.uint64pow10" .u64 Lib.pow10Tab) :
    Calls Tryd.prog 8 #[.int .i64 layer, .agg #[.string name, .int .i64 ver]] w fun e w' => e = .returned (.bool true) ∧ Below w.heap.size w w' := by
  have HTAB := hid hT
  have HPW := hid hP
  have CZ := hid (fun W => sz_Image name ver hn 1048576 (by omega) (by omega) W)
  have CS := hid (fun W => meas_spec layer name ver W)
  have CI := hid (fun W hT hG hP => meas_impl layer name ver W hT hG hP)
  unfold MadeOut at CS CI
  generalize (measOut layer name.data.toList ver).1 = b at *
  obtain ⟨y, hy⟩ : ∃ y : ByteArray, (if b = true then bytesOf (measOut layer name.data.toList ver).2 else ⟨#[]⟩) = y := ⟨_, rfl⟩
  rw [hy] at CS CI
  have hyy : (y.toList == y.toList) = true := by simp
  have hyn : (y.toList != y.toList) = false := by simp
  have hbb : (b != b) = false := by cases b <;> rfl
  clear hT hP hy hn
  have HB0_0 : Hid (Below w.heap.size w w) := hid (Below.refl _ _)
  have hz0 : w.heap.size ≤ w.heap.size := Nat.le_refl _
  obtain ⟨w1, hw1⟩ : ∃ W, W = w.alloc (.cells #[.string name, .int .i64 ver] 57) := ⟨_, rfl⟩
  have hb1 : Below w.heap.size w w1 := by rw [hw1]; exact (Below.refl _ _).alloc (Nat.le_refl _) _
  have hz1 : w.heap.size < w1.heap.size := by rw [hw1]; simp
  have HVA_1 : Hid (w1.heap[w.heap.size]? = some (.cells #[.string name, .int .i64 ver] 57)) := hid (by rw [hw1]; exact heap_alloc_new _ _)
  have HW1 := hid hw1
  have HB0_1 := hid (HB0_0.out.trans (hb1.mono HB0_0.out.size))
  clear hw1 hb1
  go_enter Tryd.func8, Tryd.ntmps8
  go_wp2_with (go_at_call 36; rw [← HW1.out]; refine (CZ.out _).mono ?_; rintro e w2 ⟨⟨r, rfl, hr⟩, hb2⟩; refine Hid.out ?_)
  refine hid ?_
  have hz2 := hb2.size
  have HB0_2 := hid (HB0_1.out.trans (hb2.mono HB0_1.out.size))
  have HVA_2 := hid ((hb2.block _ (by omega)).trans HVA_1.out)
  clear HB0_1 HVA_1
  clear hb2
  rcases hr with hr | ⟨hr, htot⟩
  · go_wp2
    go_ret
    exact ⟨rfl, HB0_2.out⟩
  · skip
    have hr2 : ¬ r < 0 := by omega
    clear htot hr
    have k_A_0 := (cell_of_row _ _ 0 _ _ _ HVA_2.out).trans rfl
    have k_A_1 := (cell_of_row _ _ 1 _ _ _ HVA_2.out).trans rfl
    go_wp2_with (go_at_call 38; refine (to_Image name ver _).mono ?_; rintro e w3 ⟨rfl, hb3⟩; refine Hid.out ?_)
    refine hid ?_
    clear k_A_0 k_A_1
    have hz3 := hb3.size
    have HB0_3 := hid (HB0_2.out.trans (hb3.mono HB0_2.out.size))
    have HVA_3 := hid ((hb3.block _ (by omega)).trans HVA_2.out)
    clear HB0_2 HVA_2
    clear hb3
    go_wp2_with (go_at_call 37; refine (CS.out _).mono ?_; rintro e w4 ⟨rfl, hb4⟩; refine Hid.out ?_)
    refine hid ?_
    have hz4 := hb4.size
    have HB0_4 := hid (HB0_3.out.trans (hb4.mono HB0_3.out.size))
    have HVA_4 := hid ((hb4.block _ (by omega)).trans HVA_3.out)
    clear HB0_3 HVA_3
    clear hb4
    have k_A_0 := (cell_of_row _ _ 0 _ _ _ HVA_4.out).trans rfl
    have k_A_1 := (cell_of_row _ _ 1 _ _ _ HVA_4.out).trans rfl
    go_wp2_with (go_at_call 38; refine (to_Image name ver _).mono ?_; rintro e w5 ⟨rfl, hb5⟩; refine Hid.out ?_)
    refine hid ?_
    clear k_A_0 k_A_1
    have hz5 := hb5.size
    have HB0_5 := hid (HB0_4.out.trans (hb5.mono HB0_4.out.size))
    have HVA_5 := hid ((hb5.block _ (by omega)).trans HVA_4.out)
    clear HB0_4 HVA_4
    clear hb5
    go_wp2_with (go_at_call 39; refine (CI.out _ (tab_on HTAB.out hG HB0_5.out) (Nat.lt_of_lt_of_le hG HB0_5.out.size) (Num.tab_stays HB0_5.out HPW.out)).mono ?_; rintro e w6 ⟨rfl, hb6⟩; refine Hid.out ?_)
    refine hid ?_
    have hz6 := hb6.size
    have HB0_6 := hid (HB0_5.out.trans (hb6.mono HB0_5.out.size))
    have HVA_6 := hid ((hb6.block _ (by omega)).trans HVA_5.out)
    clear HB0_5 HVA_5
    clear hb6
    go_wp2
    go_ret
    exact ⟨rfl, HB0_6.out⟩
end Go.Proofs.YtnlnfjchnjdfoaaDoor
