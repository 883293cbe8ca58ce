/- The law on Renewed, walked: it answers true. -/
import Derived.Test.YtemjfhgjdiijkaaDoorCertBoth
import Derived.Test.YtemjfhgjdiijkaaDoorRowCert
import Derived.Test.YtemjfhgjdiijkaaDoorRenBoth
import Derived.Test.YtemjfhgjdiijkaaDoorLawKit
namespace Go.Proofs.YtemjfhgjdiijkaaDoor
open Go.RowKit
open Go.Lib (hid)

set_option maxRecDepth 20000 in
set_option maxHeartbeats 4000000 in
theorem law_renewed (name key : ByteArray) (f u : Int) (sign : ByteArray) (hname : name.size ≤ 9223372036854775807) (hkey : key.size ≤ 9223372036854775807) (hsign : sign.size ≤ 9223372036854775807) (secret : ByteArray) (u2 : Int) (w : World) (hT : Tab w) (hG : 0 < w.heap.size) (hP : Lib.TabIs Tryd.prog w "internal/strconv.uint64pow10" .u64 Lib.pow10Tab) :
    Calls Tryd.prog 6 #[.agg #[.string name, .string key, .int .i64 f, .int .i64 u, .string sign], .string secret, .int .i64 u2] w fun e w' => e = .returned (.bool true) ∧ Below w.heap.size w w' := by
  have HTAB := hid hT
  have HPW := hid hP
  have CZ := hid (fun W => sz_Cert name key f u sign hname hkey hsign 1048576 (by omega) (by omega) W)
  clear hT hP
  by_cases h1 : secret.size ≤ 1048576
  · have g1 : ¬ (secret.size : Int) > 1048576 := by omega
    have HB0_0 : Hid (Below w.heap.size w w) := hid (Below.refl _ _)
    have hz0 : w.heap.size ≤ w.heap.size := Nat.le_refl _
    obtain ⟨w1, hw1⟩ : ∃ W, W = w.alloc (.cells #[.string name, .string key, .int .i64 f, .int .i64 u, .string sign] 28) := ⟨_, rfl⟩
    have hb1 : Below w.heap.size w w1 := by rw [hw1]; exact (Below.refl _ _).alloc (Nat.le_refl _) _
    have hz1 : w.heap.size < w1.heap.size := by rw [hw1]; simp
    have HVA_1 : Hid (w1.heap[w.heap.size]? = some (.cells #[.string name, .string key, .int .i64 f, .int .i64 u, .string sign] 28)) := hid (by rw [hw1]; exact heap_alloc_new _ _)
    have HW1 := hid hw1
    have HB0_1 := hid (HB0_0.out.trans (hb1.mono HB0_0.out.size))
    clear hw1 hb1
    go_enter Tryd.func6, Tryd.ntmps6
    go_wp2_with (go_at_call 13; rw [← HW1.out]; refine (CZ.out _).mono ?_; rintro e w2 ⟨⟨r, rfl, hr⟩, hb2⟩; refine Hid.out ?_)
    refine hid ?_
    have hz2 := hb2.size
    have HB0_2 := hid (HB0_1.out.trans (hb2.mono HB0_1.out.size))
    have HVA_2 := hid ((hb2.block _ (by omega)).trans HVA_1.out)
    clear HB0_1 HVA_1
    clear hb2
    rcases hr with hr | ⟨hr, htot⟩
    · go_wp2
      go_ret
      exact ⟨rfl, HB0_2.out⟩
    · skip
      have hr2 : ¬ r < 0 := by omega
      unfold szCertN at htot
      dsimp only at htot
      have hk1 : key.size ≤ 1048576 := by omega
      have hs1 : sign.size ≤ 1048576 := by omega
      have CS := hid (fun W => renewed_spec name key f u sign secret u2 hk1 hs1 W)
      have CI := hid (fun W hT hG hP => renewed_impl name key f u sign secret u2 W hT hG hP)
      obtain ⟨q0, q1, q2, q3, q4, hv⟩ := certV_parts name key f u2 (renO name key f u sign secret u2)
      rw [hv] at CS CI
      clear hv
      generalize (renO name key f u sign secret u2).1 = ok at *
      have hok : (ok != ok) = false := by cases ok <;> rfl
      clear htot hr hname hkey hsign
      have k_A_0 := (cell_of_row _ _ 0 _ _ _ HVA_2.out).trans rfl
      have k_A_1 := (cell_of_row _ _ 1 _ _ _ HVA_2.out).trans rfl
      have k_A_2 := (cell_of_row _ _ 2 _ _ _ HVA_2.out).trans rfl
      have k_A_3 := (cell_of_row _ _ 3 _ _ _ HVA_2.out).trans rfl
      have k_A_4 := (cell_of_row _ _ 4 _ _ _ HVA_2.out).trans rfl
      go_wp2_with (go_at_call 15; refine (to_Cert name key f u sign _).mono ?_; rintro e w3 ⟨rfl, hb3⟩; refine Hid.out ?_)
      refine hid ?_
      clear k_A_0 k_A_1 k_A_2 k_A_3 k_A_4
      have hz3 := hb3.size
      have HB0_3 := hid (HB0_2.out.trans (hb3.mono HB0_2.out.size))
      have HVA_3 := hid ((hb3.block _ (by omega)).trans HVA_2.out)
      clear HB0_2 HVA_2
      clear hb3
      go_wp2_with (go_at_call 22; refine (CS.out _).mono ?_; rintro e w4 ⟨rfl, hb4⟩; refine Hid.out ?_)
      refine hid ?_
      have hz4 := hb4.size
      have HB0_4 := hid (HB0_3.out.trans (hb4.mono HB0_3.out.size))
      have HVA_4 := hid ((hb4.block _ (by omega)).trans HVA_3.out)
      clear HB0_3 HVA_3
      clear hb4
      obtain ⟨w5, hw5⟩ : ∃ W, W = w4.alloc (.cells #[.string q0, .string q1, .int .i64 q2, .int .i64 q3, .string q4] 23) := ⟨_, rfl⟩
      have hb5 : Below w4.heap.size w4 w5 := by rw [hw5]; exact (Below.refl _ _).alloc (Nat.le_refl _) _
      have hz5 : w4.heap.size < w5.heap.size := by rw [hw5]; simp
      have HVW_5 : Hid (w5.heap[w4.heap.size]? = some (.cells #[.string q0, .string q1, .int .i64 q2, .int .i64 q3, .string q4] 23)) := hid (by rw [hw5]; exact heap_alloc_new _ _)
      have HW5 := hid hw5
      have HB0_5 := hid (HB0_4.out.trans (hb5.mono HB0_4.out.size))
      have HVA_5 := hid ((hb5.block _ (by omega)).trans HVA_4.out)
      clear HB0_4
      clear hw5 hb5
      have kz_A : w.heap.size < w4.heap.size := by omega
      have k_A_0 := (cell_of_row _ _ 0 _ _ _ HVA_4.out).trans rfl
      have k_A_1 := (cell_of_row _ _ 1 _ _ _ HVA_4.out).trans rfl
      have k_A_2 := (cell_of_row _ _ 2 _ _ _ HVA_4.out).trans rfl
      have k_A_3 := (cell_of_row _ _ 3 _ _ _ HVA_4.out).trans rfl
      have k_A_4 := (cell_of_row _ _ 4 _ _ _ HVA_4.out).trans rfl
      go_wp2_with (go_at_call 15; rw [← HW5.out]; refine (to_Cert name key f u sign _).mono ?_; rintro e w6 ⟨rfl, hb6⟩; refine Hid.out ?_)
      refine hid ?_
      clear kz_A k_A_0 k_A_1 k_A_2 k_A_3 k_A_4
      clear HVA_4
      have hz6 := hb6.size
      have HB0_6 := hid (HB0_5.out.trans (hb6.mono HB0_5.out.size))
      have HVA_6 := hid ((hb6.block _ (by omega)).trans HVA_5.out)
      have HVW_6 := hid ((hb6.block _ (by omega)).trans HVW_5.out)
      clear HB0_5 HVA_5 HVW_5
      clear hb6
      go_wp2_with (go_at_call 23; refine (CI.out _ (tab_on HTAB.out hG HB0_6.out) (Nat.lt_of_lt_of_le hG HB0_6.out.size) (Num.tab_stays HB0_6.out HPW.out)).mono ?_; rintro e w7 ⟨rfl, hb7⟩; refine Hid.out ?_)
      refine hid ?_
      have hz7 := hb7.size
      have HB0_7 := hid (HB0_6.out.trans (hb7.mono HB0_6.out.size))
      have HVA_7 := hid ((hb7.block _ (by omega)).trans HVA_6.out)
      have HVW_7 := hid ((hb7.block _ (by omega)).trans HVW_6.out)
      clear HB0_6 HVA_6 HVW_6
      clear hb7
      obtain ⟨w8, hw8⟩ : ∃ W, W = w7.alloc (.cells #[.string q0, .string q1, .int .i64 q2, .int .i64 q3, .string q4] 23) := ⟨_, rfl⟩
      have hb8 : Below w7.heap.size w7 w8 := by rw [hw8]; exact (Below.refl _ _).alloc (Nat.le_refl _) _
      have hz8 : w7.heap.size < w8.heap.size := by rw [hw8]; simp
      have HVG_8 : Hid (w8.heap[w7.heap.size]? = some (.cells #[.string q0, .string q1, .int .i64 q2, .int .i64 q3, .string q4] 23)) := hid (by rw [hw8]; exact heap_alloc_new _ _)
      have HW8 := hid hw8
      have HB0_8 := hid (HB0_7.out.trans (hb8.mono HB0_7.out.size))
      have HVA_8 := hid ((hb8.block _ (by omega)).trans HVA_7.out)
      have HVW_8 := hid ((hb8.block _ (by omega)).trans HVW_7.out)
      clear HB0_7
      clear hw8 hb8
      have kz_W : w4.heap.size < w7.heap.size := by omega
      have k_W_0 := (cell_of_row _ _ 0 _ _ _ HVW_7.out).trans rfl
      have k_W_1 := (cell_of_row _ _ 1 _ _ _ HVW_7.out).trans rfl
      have k_W_2 := (cell_of_row _ _ 2 _ _ _ HVW_7.out).trans rfl
      have k_W_3 := (cell_of_row _ _ 3 _ _ _ HVW_7.out).trans rfl
      have k_W_4 := (cell_of_row _ _ 4 _ _ _ HVW_7.out).trans rfl
      go_wp2_with (go_at_call 12; rw [← HW8.out]; refine (eq_Cert q0 q1 q2 q3 q4 _).mono ?_; rintro e w9 ⟨rfl, hb9⟩; refine Hid.out ?_)
      refine hid ?_
      clear kz_W k_W_0 k_W_1 k_W_2 k_W_3 k_W_4
      clear HVA_7 HVW_7
      have hz9 := hb9.size
      have HB0_9 := hid (HB0_8.out.trans (hb9.mono HB0_8.out.size))
      have HVA_9 := hid ((hb9.block _ (by omega)).trans HVA_8.out)
      have HVW_9 := hid ((hb9.block _ (by omega)).trans HVW_8.out)
      have HVG_9 := hid ((hb9.block _ (by omega)).trans HVG_8.out)
      clear HB0_8 HVA_8 HVW_8 HVG_8
      clear hb9
      go_wp2
      go_ret
      exact ⟨rfl, HB0_9.out⟩
  · have hd : (secret.size : Int) > 1048576 := by omega
    go_enter Tryd.func6, Tryd.ntmps6
    go_wp2
    go_ret
    exact ⟨rfl, (Below.refl _ _).alloc (Nat.le_refl _) _⟩
end Go.Proofs.YtemjfhgjdiijkaaDoor
