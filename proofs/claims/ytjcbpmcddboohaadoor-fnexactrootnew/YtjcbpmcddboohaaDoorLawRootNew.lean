/- The law on RootNew, walked: it answers true. -/
import Derived.Test.YtjcbpmcddboohaaDoorPackRoot
import Derived.Test.YtjcbpmcddboohaaDoorLawKit
namespace Go.Proofs.YtjcbpmcddboohaaDoor
open Go.RowKit
open Go.Lib (hid)

theorem newR_few (key : ByteArray) : (newR key).2.2.2.length ≤ 44 := by
  have h := newOut_few [0]
  rw [newOut_zero] at h
  unfold newR
  split
  · exact h
  · exact Nat.zero_le _

set_option maxRecDepth 20000 in
set_option maxHeartbeats 2000000 in
theorem law_rootnew (key : ByteArray) (w : World) (hT : Tab w) (hG : 0 < w.heap.size) :
    Calls Tryd.prog 4 #[.string key] w fun e w' => e = .returned (.bool true) ∧ Below w.heap.size w w' := by
  have HTAB := hid hT
  have CS := hid (fun W => rootNew_spec key W)
  have CI := hid (fun W hT hG => rootNew_impl key W hT hG)
  unfold NewRPost at CS CI
  have hfew := newR_few key
  generalize (newR key).2.2.2 = L at *
  generalize (newR key).2.2.1 = S at *
  generalize (newR key).2.1 = K at *
  generalize (newR key).1 = b at *
  have hbb : (b != b) = false := by cases b <;> rfl
  have hmm : ¬ ((1 + L.length : Nat) : Int) < 0 := by omega
  clear hT
  by_cases hgd : key.size ≤ 1048576
  · have hgd2 : ¬ (key.size : Int) > 1048576 := by omega
    have HB0_0 : Hid (Below w.heap.size w w) := hid (Below.refl _ _)
    have hz0 : w.heap.size ≤ w.heap.size := Nat.le_refl _
    go_enter Tryd.func4, Tryd.ntmps4
    go_wp2_with (go_at_call 20; refine (CS.out _).mono ?_; rintro e w1 ⟨sv1, rfl, hb1, ho1⟩; refine Hid.out ?_)
    refine hid ?_
    have hz1 := hb1.size
    have HB0_1 := hid (HB0_0.out.trans (hb1.mono HB0_0.out.size))
    have HB1_1 : Hid (Below w1.heap.size w1 w1) := hid (Below.refl _ _)
    have HOw0_1 := hid ho1
    have HLw0 := hid (ho1.lt)
    obtain ⟨p1, c1, rfl, _, _⟩ := row_in_own HOw0_1.out
    clear hb1 ho1
    obtain ⟨w2, hw2⟩ : ∃ W, W = w1.alloc (.cells #[.string K, .int .i64 S, .slice p1 L.length c1, .bool false, .slice none 0 0] 32) := ⟨_, rfl⟩
    have hb2 : Below w1.heap.size w1 w2 := by rw [hw2]; exact (Below.refl _ _).alloc (Nat.le_refl _) _
    have hz2 : w1.heap.size < w2.heap.size := by rw [hw2]; simp
    have HVW_2 : Hid (w2.heap[w1.heap.size]? = some (.cells #[.string K, .int .i64 S, .slice p1 L.length c1, .bool false, .slice none 0 0] 32)) := hid (by rw [hw2]; exact heap_alloc_new _ _)
    have HW2 := hid hw2
    have HB0_2 := hid (HB0_1.out.trans (hb2.mono HB0_1.out.size))
    have HB1_2 := hid (HB1_1.out.trans (hb2.mono HB1_1.out.size))
    have HOw0_2 := hid (own_below HOw0_1.out hb2)
    clear HB0_1 HB1_1 HOw0_1
    clear hw2 hb2
    go_wp2_with (go_at_call 21; rw [← HW2.out]; refine (CI.out _ (tab_on HTAB.out hG HB0_2.out) (Nat.lt_of_lt_of_le hG HB0_2.out.size)).mono ?_; rintro e w3 ⟨sv3, rfl, hb3, ho3⟩; refine Hid.out ?_)
    refine hid ?_
    have hz3 := hb3.size
    have HB0_3 := hid (HB0_2.out.trans (hb3.mono HB0_2.out.size))
    have HB1_3 := hid (HB1_2.out.trans (hb3.mono HB1_2.out.size))
    have HOw0_3 := hid (own_below HOw0_2.out hb3)
    have HVW_3 := hid ((hb3.block _ (by omega)).trans HVW_2.out)
    clear HB0_2 HB1_2 HOw0_2 HVW_2
    have HB3_3 : Hid (Below w3.heap.size w3 w3) := hid (Below.refl _ _)
    have HOg0_3 := hid ho3
    have HLg0 := hid (ho3.lt)
    obtain ⟨p3, c3, rfl, _, _⟩ := row_in_own HOg0_3.out
    clear hb3 ho3
    obtain ⟨w4, hw4⟩ : ∃ W, W = w3.alloc (.cells #[.string K, .int .i64 S, .slice p3 L.length c3, .bool false, .slice none 0 0] 32) := ⟨_, rfl⟩
    have hb4 : Below w3.heap.size w3 w4 := by rw [hw4]; exact (Below.refl _ _).alloc (Nat.le_refl _) _
    have hz4 : w3.heap.size < w4.heap.size := by rw [hw4]; simp
    have HVG_4 : Hid (w4.heap[w3.heap.size]? = some (.cells #[.string K, .int .i64 S, .slice p3 L.length c3, .bool false, .slice none 0 0] 32)) := hid (by rw [hw4]; exact heap_alloc_new _ _)
    have HW4 := hid hw4
    have HB0_4 := hid (HB0_3.out.trans (hb4.mono HB0_3.out.size))
    have HB1_4 := hid (HB1_3.out.trans (hb4.mono HB1_3.out.size))
    have HB3_4 := hid (HB3_3.out.trans (hb4.mono HB3_3.out.size))
    have HOw0_4 := hid (own_below HOw0_3.out hb4)
    have HOg0_4 := hid (own_below HOg0_3.out hb4)
    have HVW_4 := hid ((hb4.block _ (by omega)).trans HVW_3.out)
    clear HB0_3 HB1_3 HB3_3 HOw0_3 HOg0_3
    clear hw4 hb4
    have kz_W : w1.heap.size < w3.heap.size := by omega
    have k_W_0 := (cell_of_row _ _ 0 _ _ _ HVW_3.out).trans rfl
    have k_W_1 := (cell_of_row _ _ 1 _ _ _ HVW_3.out).trans rfl
    have k_W_2 := (cell_of_row _ _ 2 _ _ _ HVW_3.out).trans rfl
    have k_W_3 := (cell_of_row _ _ 3 _ _ _ HVW_3.out).trans rfl
    have k_W_4 := (cell_of_row _ _ 4 _ _ _ HVW_3.out).trans rfl
    go_wp2_with (go_at_call 19; rw [← HW4.out]; refine (eq_root K S L (by omega) false [] (by simp) _ _ _ _ _ (row_in_own HOg0_4.out) (texts_nil _) (row_in_own HOw0_4.out) (texts_nil _)).mono ?_; rintro e w5 ⟨rfl, hb5⟩; refine Hid.out ?_)
    refine hid ?_
    clear kz_W k_W_0 k_W_1 k_W_2 k_W_3 k_W_4
    clear HVW_3
    have hz5 := hb5.size
    have HB0_5 := hid (HB0_4.out.trans (hb5.mono HB0_4.out.size))
    have HB1_5 := hid (HB1_4.out.trans (hb5.mono HB1_4.out.size))
    have HB3_5 := hid (HB3_4.out.trans (hb5.mono HB3_4.out.size))
    have HOw0_5 := hid (own_below HOw0_4.out hb5)
    have HOg0_5 := hid (own_below HOg0_4.out hb5)
    have HVW_5 := hid ((hb5.block _ (by omega)).trans HVW_4.out)
    have HVG_5 := hid ((hb5.block _ (by omega)).trans HVG_4.out)
    clear HB0_4 HB1_4 HB3_4 HOw0_4 HOg0_4 HVW_4 HVG_4
    clear hb5
    have k_G_0 := (cell_of_row _ _ 0 _ _ _ HVG_5.out).trans rfl
    have k_G_1 := (cell_of_row _ _ 1 _ _ _ HVG_5.out).trans rfl
    have k_G_2 := (cell_of_row _ _ 2 _ _ _ HVG_5.out).trans rfl
    have k_G_3 := (cell_of_row _ _ 3 _ _ _ HVG_5.out).trans rfl
    have k_G_4 := (cell_of_row _ _ 4 _ _ _ HVG_5.out).trans rfl
    go_wp2_with (go_at_call 22; refine (mark_root0 K S L false 1 (by omega) (by omega) _ _ _ HOg0_5.out).mono ?_; rintro e w6 ⟨rfl, hg6, ho6⟩; refine Hid.out ?_)
    refine hid ?_
    clear k_G_0 k_G_1 k_G_2 k_G_3 k_G_4
    have hz6 := hg6.size
    have HB0_6 := hid (HB0_5.out.trans (grown_to hg6 HB0_5.out.size (fun k hk => by have := (HLg0.out k hk).1; omega)))
    have HB1_6 := hid (HB1_5.out.trans (grown_to hg6 HB1_5.out.size (fun k hk => by have := (HLg0.out k hk).1; omega)))
    have HOw0_6 := hid (HOw0_5.out.kept hg6 (kept_apart HLw0.out HLg0.out (by omega)))
    have HOg0_6 := hid ho6
    have HVW_6 := hid ((hg6.block _ (by omega) (fun e => by have := HLg0.out _ e.symm; omega)).trans HVW_5.out)
    have HVG_6 := hid ((hg6.block _ (by omega) (fun e => by have := HLg0.out _ e.symm; omega)).trans HVG_5.out)
    clear HB0_5 HB1_5 HB3_5 HOw0_5 HOg0_5 HVW_5 HVG_5
    clear hg6 ho6
    have k_G_0 := (cell_of_row _ _ 0 _ _ _ HVG_6.out).trans rfl
    have k_G_1 := (cell_of_row _ _ 1 _ _ _ HVG_6.out).trans rfl
    have k_G_2 := (cell_of_row _ _ 2 _ _ _ HVG_6.out).trans rfl
    have k_G_3 := (cell_of_row _ _ 3 _ _ _ HVG_6.out).trans rfl
    have k_G_4 := (cell_of_row _ _ 4 _ _ _ HVG_6.out).trans rfl
    go_wp2_with (go_at_call 23; refine (held_root0 K S false 1 L.length (by omega) (by omega) _ _ (row_in_own2 (imarks_len 1 L.length).symm HOg0_6.out)).mono ?_; rintro e w7 ⟨rfl, hb7⟩; refine Hid.out ?_)
    refine hid ?_
    clear k_G_0 k_G_1 k_G_2 k_G_3 k_G_4
    have hz7 := hb7.size
    have HB0_7 := hid (HB0_6.out.trans (hb7.mono HB0_6.out.size))
    have HB1_7 := hid (HB1_6.out.trans (hb7.mono HB1_6.out.size))
    have HOw0_7 := hid (own_below HOw0_6.out hb7)
    have HOg0_7 := hid (own_below HOg0_6.out hb7)
    have HVW_7 := hid ((hb7.block _ (by omega)).trans HVW_6.out)
    have HVG_7 := hid ((hb7.block _ (by omega)).trans HVG_6.out)
    clear HB0_6 HB1_6 HOw0_6 HOg0_6 HVW_6 HVG_6
    clear hb7
    go_wp2_with (go_at_call 21; refine (CI.out _ (tab_on HTAB.out hG HB0_7.out) (Nat.lt_of_lt_of_le hG HB0_7.out.size)).mono ?_; rintro e w8 ⟨sv8, rfl, hb8, ho8⟩; refine Hid.out ?_)
    refine hid ?_
    have hz8 := hb8.size
    have HB0_8 := hid (HB0_7.out.trans (hb8.mono HB0_7.out.size))
    have HB1_8 := hid (HB1_7.out.trans (hb8.mono HB1_7.out.size))
    have HOw0_8 := hid (own_below HOw0_7.out hb8)
    have HOg0_8 := hid (own_below HOg0_7.out hb8)
    have HVW_8 := hid ((hb8.block _ (by omega)).trans HVW_7.out)
    have HVG_8 := hid ((hb8.block _ (by omega)).trans HVG_7.out)
    clear HB0_7 HB1_7 HOw0_7 HOg0_7 HVW_7 HVG_7
    have HB8_8 : Hid (Below w8.heap.size w8 w8) := hid (Below.refl _ _)
    have HOh0_8 := hid ho8
    have HLh0 := hid (ho8.lt)
    obtain ⟨p8, c8, rfl, _, _⟩ := row_in_own HOh0_8.out
    clear hb8 ho8
    obtain ⟨w9, hw9⟩ : ∃ W, W = w8.alloc (.cells #[.string K, .int .i64 S, .slice p8 L.length c8, .bool false, .slice none 0 0] 32) := ⟨_, rfl⟩
    have hb9 : Below w8.heap.size w8 w9 := by rw [hw9]; exact (Below.refl _ _).alloc (Nat.le_refl _) _
    have hz9 : w8.heap.size < w9.heap.size := by rw [hw9]; simp
    have HVH_9 : Hid (w9.heap[w8.heap.size]? = some (.cells #[.string K, .int .i64 S, .slice p8 L.length c8, .bool false, .slice none 0 0] 32)) := hid (by rw [hw9]; exact heap_alloc_new _ _)
    have HW9 := hid hw9
    have HB0_9 := hid (HB0_8.out.trans (hb9.mono HB0_8.out.size))
    have HB1_9 := hid (HB1_8.out.trans (hb9.mono HB1_8.out.size))
    have HB8_9 := hid (HB8_8.out.trans (hb9.mono HB8_8.out.size))
    have HOw0_9 := hid (own_below HOw0_8.out hb9)
    have HOg0_9 := hid (own_below HOg0_8.out hb9)
    have HOh0_9 := hid (own_below HOh0_8.out hb9)
    have HVW_9 := hid ((hb9.block _ (by omega)).trans HVW_8.out)
    have HVG_9 := hid ((hb9.block _ (by omega)).trans HVG_8.out)
    clear HB0_8 HB1_8 HB8_8 HOw0_8 HOg0_8 HOh0_8
    clear hw9 hb9
    have kz_W : w1.heap.size < w8.heap.size := by omega
    have k_W_0 := (cell_of_row _ _ 0 _ _ _ HVW_8.out).trans rfl
    have k_W_1 := (cell_of_row _ _ 1 _ _ _ HVW_8.out).trans rfl
    have k_W_2 := (cell_of_row _ _ 2 _ _ _ HVW_8.out).trans rfl
    have k_W_3 := (cell_of_row _ _ 3 _ _ _ HVW_8.out).trans rfl
    have k_W_4 := (cell_of_row _ _ 4 _ _ _ HVW_8.out).trans rfl
    go_wp2_with (go_at_call 19; rw [← HW9.out]; refine (eq_root K S L (by omega) false [] (by simp) _ _ _ _ _ (row_in_own HOh0_9.out) (texts_nil _) (row_in_own HOw0_9.out) (texts_nil _)).mono ?_; rintro e w10 ⟨rfl, hb10⟩; refine Hid.out ?_)
    refine hid ?_
    clear kz_W k_W_0 k_W_1 k_W_2 k_W_3 k_W_4
    clear HVW_8 HVG_8
    have hz10 := hb10.size
    have HB0_10 := hid (HB0_9.out.trans (hb10.mono HB0_9.out.size))
    have HB1_10 := hid (HB1_9.out.trans (hb10.mono HB1_9.out.size))
    have HB8_10 := hid (HB8_9.out.trans (hb10.mono HB8_9.out.size))
    have HOw0_10 := hid (own_below HOw0_9.out hb10)
    have HOg0_10 := hid (own_below HOg0_9.out hb10)
    have HOh0_10 := hid (own_below HOh0_9.out hb10)
    have HVW_10 := hid ((hb10.block _ (by omega)).trans HVW_9.out)
    have HVG_10 := hid ((hb10.block _ (by omega)).trans HVG_9.out)
    have HVH_10 := hid ((hb10.block _ (by omega)).trans HVH_9.out)
    clear HB0_9 HB1_9 HB8_9 HOw0_9 HOg0_9 HOh0_9 HVW_9 HVG_9 HVH_9
    clear hb10
    have k_G_0 := (cell_of_row _ _ 0 _ _ _ HVG_10.out).trans rfl
    have k_G_1 := (cell_of_row _ _ 1 _ _ _ HVG_10.out).trans rfl
    have k_G_2 := (cell_of_row _ _ 2 _ _ _ HVG_10.out).trans rfl
    have k_G_3 := (cell_of_row _ _ 3 _ _ _ HVG_10.out).trans rfl
    have k_G_4 := (cell_of_row _ _ 4 _ _ _ HVG_10.out).trans rfl
    go_wp2_with (go_at_call 23; refine (held_root0 K S false 1 L.length (by omega) (by omega) _ _ (row_in_own2 (imarks_len 1 L.length).symm HOg0_10.out)).mono ?_; rintro e w11 ⟨rfl, hb11⟩; refine Hid.out ?_)
    refine hid ?_
    clear k_G_0 k_G_1 k_G_2 k_G_3 k_G_4
    have hz11 := hb11.size
    have HB0_11 := hid (HB0_10.out.trans (hb11.mono HB0_10.out.size))
    have HB1_11 := hid (HB1_10.out.trans (hb11.mono HB1_10.out.size))
    have HB8_11 := hid (HB8_10.out.trans (hb11.mono HB8_10.out.size))
    have HOw0_11 := hid (own_below HOw0_10.out hb11)
    have HOg0_11 := hid (own_below HOg0_10.out hb11)
    have HOh0_11 := hid (own_below HOh0_10.out hb11)
    have HVW_11 := hid ((hb11.block _ (by omega)).trans HVW_10.out)
    have HVG_11 := hid ((hb11.block _ (by omega)).trans HVG_10.out)
    have HVH_11 := hid ((hb11.block _ (by omega)).trans HVH_10.out)
    clear HB0_10 HB1_10 HB8_10 HOw0_10 HOg0_10 HOh0_10 HVW_10 HVG_10 HVH_10
    clear hb11
    go_wp2
    go_ret
    exact ⟨rfl, HB0_11.out⟩
  · have hd : (key.size : Int) > 1048576 := by omega
    go_enter Tryd.func4, Tryd.ntmps4
    go_wp2
    go_ret
    exact ⟨rfl, Below.refl _ _⟩
end Go.Proofs.YtjcbpmcddboohaaDoor
