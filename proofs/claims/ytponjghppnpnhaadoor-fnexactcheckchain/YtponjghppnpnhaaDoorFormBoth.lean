/- Certs, the specification's and the program's: formed, made. -/
import Derived.Test.YtponjghppnpnhaaDoorSignBoth
import Derived.Test.YtponjghppnpnhaaDoorMeasBoth
import Derived.Test.YtponjghppnpnhaaDoorCertPlain
namespace Go.Proofs.YtponjghppnpnhaaDoor
open Go.RowKit
open Go.Lib (hid)

theorem num_spec (n : Int) (w : World) : Calls Tryd.prog 58 #[.int .i64 n] w fun e w' => e = .returned (.tuple #[.string (bytesOf (numL n)), .bool (numB n)]) ∧ Below w.heap.size w w' := by
  unfold numL numB
  by_cases h : 0 ≤ n ∧ n ≤ 1000000000
  · rw [if_pos h, decide_eq_true h]
    obtain ⟨k, rfl⟩ := Int.eq_ofNat_of_zero_le h.1
    exact Num.specNumber_yes k (by omega) w
  · rw [if_neg h, decide_eq_false h]
    exact (Num.specNumber_no n h w).mono fun e w' h => by
      obtain ⟨he, hw⟩ := h
      exact ⟨he, by rw [hw]; exact Below.refl _ _⟩

theorem num_impl (n : Int) (w : World) (hP : Lib.TabIs Tryd.prog w "internal/strconv.uint64pow10" .u64 Lib.pow10Tab) : Calls Tryd.prog 116 #[.int .i64 n] w fun e w' => e = .returned (.tuple #[.string (bytesOf (numL n)), .bool (numB n)]) ∧ Below w.heap.size w w' := by
  unfold numL numB
  by_cases h : 0 ≤ n ∧ n ≤ 1000000000
  · rw [if_pos h, decide_eq_true h]
    obtain ⟨k, rfl⟩ := Int.eq_ofNat_of_zero_le h.1
    exact Num.implNumber_yes k (by omega) w hP
  · rw [if_neg h, decide_eq_false h]
    exact (Num.implNumber_no n h w).mono fun e w' h => by
      obtain ⟨he, hw⟩ := h
      exact ⟨he, by rw [hw]; exact Below.refl _ _⟩


theorem last_test (ks : Nat) : Ending.returned (.bool (decide ((0 : Int) < (ks : Int)))) = Ending.returned (.bool ((true && (true && (true && true))) && decide (ks ≠ 0))) := by
  by_cases h : ks = 0
  · subst h; rfl
  · rw [decide_eq_true (show (0 : Int) < (ks : Int) by omega), decide_eq_true h]; rfl

theorem last_testN (ks : Nat) : Ending.returned (.bool (decide (0 < ks))) = Ending.returned (.bool ((true && (true && (true && true))) && decide (ks ≠ 0))) := by
  by_cases h : ks = 0
  · subst h; rfl
  · rw [decide_eq_true (show 0 < ks by omega), decide_eq_true h]; rfl

theorem last_test2 (ks : Nat) : Ending.returned (.bool ((ks : Int) != 0)) = Ending.returned (.bool ((true && (true && (true && true))) && decide (ks ≠ 0))) := by
  by_cases h : ks = 0
  · subst h; rfl
  · rw [decide_eq_true h]
    have : ((ks : Int) != 0) = true := by simp; exact h
    rw [this]; rfl

set_option maxRecDepth 20000 in
set_option maxHeartbeats 4000000 in
theorem cform_spec (name key : ByteArray) (f u : Int) (sign : ByteArray) (hk : key.size ≤ 1048576) (hs : sign.size ≤ 1048576) (w : World) :
    Calls Tryd.prog 62 #[.agg #[.string name, .string key, .int .i64 f, .int .i64 u, .string sign]] w fun e w' => e = .returned (.bool (cformB name key f u sign)) ∧ Below w.heap.size w w' := by
  have HI : Hid (cformB name key f u sign = ((nameB name.data.toList && (decide ((nodeOf key).1 = 6) && (decide (0 ≤ f ∧ f ≤ u) && decide (u ≤ 1000000000)))) && decide ((nodeOf sign).1 ≠ 0))) := hid rfl
  have CN := hid (fun W => sname_calls name W)
  have CK := hid (fun W => kind_spec key W hk)
  have CS := hid (fun W => kind_spec sign W hs)
  have CI := hid (fun W => in_any f 0 u W)
  clear hk hs
  generalize cformB name key f u sign = r at *
  generalize nameB name.data.toList = b at *
  generalize (nodeOf key).1 = kk at *
  generalize (nodeOf sign).1 = ks at *
  have HB0_0 : Hid (Below w.heap.size w w) := hid (Below.refl _ _)
  have hz0 : w.heap.size ≤ w.heap.size := Nat.le_refl _
  obtain ⟨w1, hw1⟩ : ∃ W, W = w.alloc (.cells #[.string name, .string key, .int .i64 f, .int .i64 u, .string sign] 33) := ⟨_, rfl⟩
  have hb1 : Below w.heap.size w w1 := by rw [hw1]; exact (Below.refl _ _).alloc (Nat.le_refl _) _
  have hz1 : w.heap.size < w1.heap.size := by rw [hw1]; simp
  have HVC_1 : Hid (w1.heap[w.heap.size]? = some (.cells #[.string name, .string key, .int .i64 f, .int .i64 u, .string sign] 33)) := hid (by rw [hw1]; exact heap_alloc_new _ _)
  have HW1 := hid hw1
  have HB0_1 := hid (HB0_0.out.trans (hb1.mono HB0_0.out.size))
  clear hw1 hb1
  cases b with
  | false =>
    go_enter Tryd.func62, Tryd.ntmps62
    go_wp2_with (go_at_call 118; rw [← HW1.out]; refine (CN.out _).mono ?_; rintro e wq ⟨rfl, eq⟩; rw [eq]; clear eq wq; refine Hid.out ?_)
    refine hid ?_
    go_wp2
    go_ret
    exact ⟨by rw [HI.out]; rfl, HB0_1.out⟩
  | true =>
    by_cases h6 : kk = 6
    · have hq : ((kk : Int) == 6) = true := by rw [h6]; rfl
      have HD6 := hid (decide_eq_true h6)
      clear h6
      by_cases hi : 0 ≤ f ∧ f ≤ u
      · have HDI := hid (decide_eq_true hi)
        rw [HDI.out] at CI
        clear hi
        by_cases hu : u ≤ 1000000000
        · have HDU := hid (decide_eq_true hu)
          go_enter Tryd.func62, Tryd.ntmps62
          go_wp2_with (go_at_call 118; rw [← HW1.out]; refine (CN.out _).mono ?_; rintro e wq ⟨rfl, eq⟩; rw [eq]; clear eq wq; refine Hid.out ?_)
          refine hid ?_
          have k_C_0 := (cell_of_row _ _ 0 _ _ _ HVC_1.out).trans rfl
          have k_C_1 := (cell_of_row _ _ 1 _ _ _ HVC_1.out).trans rfl
          have k_C_2 := (cell_of_row _ _ 2 _ _ _ HVC_1.out).trans rfl
          have k_C_3 := (cell_of_row _ _ 3 _ _ _ HVC_1.out).trans rfl
          have k_C_4 := (cell_of_row _ _ 4 _ _ _ HVC_1.out).trans rfl
          go_wp2_with (go_at_call 64; refine (CK.out _).mono ?_; rintro e w2 ⟨rfl, hb2⟩; refine Hid.out ?_)
          refine hid ?_
          clear k_C_0 k_C_1 k_C_2 k_C_3 k_C_4
          have hz2 := hb2.size
          have HB0_2 := hid (HB0_1.out.trans (hb2.mono HB0_1.out.size))
          have HVC_2 := hid ((hb2.block _ (by omega)).trans HVC_1.out)
          clear HB0_1 HVC_1
          clear hb2
          have k_C_0 := (cell_of_row _ _ 0 _ _ _ HVC_2.out).trans rfl
          have k_C_1 := (cell_of_row _ _ 1 _ _ _ HVC_2.out).trans rfl
          have k_C_2 := (cell_of_row _ _ 2 _ _ _ HVC_2.out).trans rfl
          have k_C_3 := (cell_of_row _ _ 3 _ _ _ HVC_2.out).trans rfl
          have k_C_4 := (cell_of_row _ _ 4 _ _ _ HVC_2.out).trans rfl
          go_wp2_with (go_at_call 109; refine (CI.out _).mono ?_; rintro e wq ⟨rfl, eq⟩; rw [eq]; clear eq wq; refine Hid.out ?_)
          refine hid ?_
          go_wp2_with (go_at_call 64; refine (CS.out _).mono ?_; rintro e w3 ⟨rfl, hb3⟩; refine Hid.out ?_)
          refine hid ?_
          clear k_C_0 k_C_1 k_C_2 k_C_3 k_C_4
          have hz3 := hb3.size
          have HB0_3 := hid (HB0_2.out.trans (hb3.mono HB0_2.out.size))
          have HVC_3 := hid ((hb3.block _ (by omega)).trans HVC_2.out)
          clear HB0_2 HVC_2
          clear hb3
          go_wp2
          go_ret
          exact ⟨by rw [HI.out]; rw [HD6.out, HDI.out, HDU.out]; first | exact last_test ks | exact last_testN ks, HB0_3.out⟩
        · have HDU := hid (decide_eq_false hu)
          go_enter Tryd.func62, Tryd.ntmps62
          go_wp2_with (go_at_call 118; rw [← HW1.out]; refine (CN.out _).mono ?_; rintro e wq ⟨rfl, eq⟩; rw [eq]; clear eq wq; refine Hid.out ?_)
          refine hid ?_
          have k_C_0 := (cell_of_row _ _ 0 _ _ _ HVC_1.out).trans rfl
          have k_C_1 := (cell_of_row _ _ 1 _ _ _ HVC_1.out).trans rfl
          have k_C_2 := (cell_of_row _ _ 2 _ _ _ HVC_1.out).trans rfl
          have k_C_3 := (cell_of_row _ _ 3 _ _ _ HVC_1.out).trans rfl
          have k_C_4 := (cell_of_row _ _ 4 _ _ _ HVC_1.out).trans rfl
          go_wp2_with (go_at_call 64; refine (CK.out _).mono ?_; rintro e w2 ⟨rfl, hb2⟩; refine Hid.out ?_)
          refine hid ?_
          clear k_C_0 k_C_1 k_C_2 k_C_3 k_C_4
          have hz2 := hb2.size
          have HB0_2 := hid (HB0_1.out.trans (hb2.mono HB0_1.out.size))
          have HVC_2 := hid ((hb2.block _ (by omega)).trans HVC_1.out)
          clear HB0_1 HVC_1
          clear hb2
          have k_C_0 := (cell_of_row _ _ 0 _ _ _ HVC_2.out).trans rfl
          have k_C_1 := (cell_of_row _ _ 1 _ _ _ HVC_2.out).trans rfl
          have k_C_2 := (cell_of_row _ _ 2 _ _ _ HVC_2.out).trans rfl
          have k_C_3 := (cell_of_row _ _ 3 _ _ _ HVC_2.out).trans rfl
          have k_C_4 := (cell_of_row _ _ 4 _ _ _ HVC_2.out).trans rfl
          go_wp2_with (go_at_call 109; refine (CI.out _).mono ?_; rintro e wq ⟨rfl, eq⟩; rw [eq]; clear eq wq; refine Hid.out ?_)
          refine hid ?_
          go_wp2
          go_ret
          exact ⟨by rw [HI.out]; rw [HD6.out, HDI.out, HDU.out]; rfl, HB0_2.out⟩
      · have HDI := hid (decide_eq_false hi)
        rw [HDI.out] at CI
        clear hi
        go_enter Tryd.func62, Tryd.ntmps62
        go_wp2_with (go_at_call 118; rw [← HW1.out]; refine (CN.out _).mono ?_; rintro e wq ⟨rfl, eq⟩; rw [eq]; clear eq wq; refine Hid.out ?_)
        refine hid ?_
        have k_C_0 := (cell_of_row _ _ 0 _ _ _ HVC_1.out).trans rfl
        have k_C_1 := (cell_of_row _ _ 1 _ _ _ HVC_1.out).trans rfl
        have k_C_2 := (cell_of_row _ _ 2 _ _ _ HVC_1.out).trans rfl
        have k_C_3 := (cell_of_row _ _ 3 _ _ _ HVC_1.out).trans rfl
        have k_C_4 := (cell_of_row _ _ 4 _ _ _ HVC_1.out).trans rfl
        go_wp2_with (go_at_call 64; refine (CK.out _).mono ?_; rintro e w2 ⟨rfl, hb2⟩; refine Hid.out ?_)
        refine hid ?_
        clear k_C_0 k_C_1 k_C_2 k_C_3 k_C_4
        have hz2 := hb2.size
        have HB0_2 := hid (HB0_1.out.trans (hb2.mono HB0_1.out.size))
        have HVC_2 := hid ((hb2.block _ (by omega)).trans HVC_1.out)
        clear HB0_1 HVC_1
        clear hb2
        have k_C_0 := (cell_of_row _ _ 0 _ _ _ HVC_2.out).trans rfl
        have k_C_1 := (cell_of_row _ _ 1 _ _ _ HVC_2.out).trans rfl
        have k_C_2 := (cell_of_row _ _ 2 _ _ _ HVC_2.out).trans rfl
        have k_C_3 := (cell_of_row _ _ 3 _ _ _ HVC_2.out).trans rfl
        have k_C_4 := (cell_of_row _ _ 4 _ _ _ HVC_2.out).trans rfl
        go_wp2_with (go_at_call 109; refine (CI.out _).mono ?_; rintro e wq ⟨rfl, eq⟩; rw [eq]; clear eq wq; refine Hid.out ?_)
        refine hid ?_
        go_wp2
        go_ret
        exact ⟨by rw [HI.out]; rw [HD6.out, HDI.out]; rfl, HB0_2.out⟩
    · have hq : ((kk : Int) == 6) = false := by rw [beq_eq_false_iff_ne]; omega
      have HD6 := hid (decide_eq_false h6)
      clear h6
      go_enter Tryd.func62, Tryd.ntmps62
      go_wp2_with (go_at_call 118; rw [← HW1.out]; refine (CN.out _).mono ?_; rintro e wq ⟨rfl, eq⟩; rw [eq]; clear eq wq; refine Hid.out ?_)
      refine hid ?_
      have k_C_0 := (cell_of_row _ _ 0 _ _ _ HVC_1.out).trans rfl
      have k_C_1 := (cell_of_row _ _ 1 _ _ _ HVC_1.out).trans rfl
      have k_C_2 := (cell_of_row _ _ 2 _ _ _ HVC_1.out).trans rfl
      have k_C_3 := (cell_of_row _ _ 3 _ _ _ HVC_1.out).trans rfl
      have k_C_4 := (cell_of_row _ _ 4 _ _ _ HVC_1.out).trans rfl
      go_wp2_with (go_at_call 64; refine (CK.out _).mono ?_; rintro e w2 ⟨rfl, hb2⟩; refine Hid.out ?_)
      refine hid ?_
      clear k_C_0 k_C_1 k_C_2 k_C_3 k_C_4
      have hz2 := hb2.size
      have HB0_2 := hid (HB0_1.out.trans (hb2.mono HB0_1.out.size))
      have HVC_2 := hid ((hb2.block _ (by omega)).trans HVC_1.out)
      clear HB0_1 HVC_1
      clear hb2
      go_wp2
      go_ret
      exact ⟨by rw [HI.out]; rw [HD6.out]; rfl, HB0_2.out⟩

set_option maxRecDepth 20000 in
set_option maxHeartbeats 4000000 in
theorem cform_impl (name key : ByteArray) (f u : Int) (sign : ByteArray) (w : World) (hT : Tab w) (hG : 0 < w.heap.size) :
    Calls Tryd.prog 125 #[.agg #[.string name, .string key, .int .i64 f, .int .i64 u, .string sign]] w fun e w' => e = .returned (.bool (cformB name key f u sign)) ∧ Below w.heap.size w w' := by
  have HTAB := hid hT
  have HI : Hid (cformB name key f u sign = ((nameB name.data.toList && (decide ((nodeOf key).1 = 6) && (decide (0 ≤ f ∧ f ≤ u) && decide (u ≤ 1000000000)))) && decide ((nodeOf sign).1 ≠ 0))) := hid rfl
  have CN := hid (fun W hT hG => kind_impl name W hT hG)
  have CK := hid (fun W hT hG => kind_impl key W hT hG)
  have CS := hid (fun W hT hG => kind_impl sign W hT hG)
  have HNN := hid (name_node name)
  clear hT
  generalize cformB name key f u sign = r at *
  generalize nameB name.data.toList = b at *
  generalize (nodeOf name).1 = kn at *
  generalize (nodeOf key).1 = kk at *
  generalize (nodeOf sign).1 = ks at *
  have HB0_0 : Hid (Below w.heap.size w w) := hid (Below.refl _ _)
  have hz0 : w.heap.size ≤ w.heap.size := Nat.le_refl _
  obtain ⟨w1, hw1⟩ : ∃ W, W = w.alloc (.cells #[.string name, .string key, .int .i64 f, .int .i64 u, .string sign] 33) := ⟨_, rfl⟩
  have hb1 : Below w.heap.size w w1 := by rw [hw1]; exact (Below.refl _ _).alloc (Nat.le_refl _) _
  have hz1 : w.heap.size < w1.heap.size := by rw [hw1]; simp
  have HVC_1 : Hid (w1.heap[w.heap.size]? = some (.cells #[.string name, .string key, .int .i64 f, .int .i64 u, .string sign] 33)) := hid (by rw [hw1]; exact heap_alloc_new _ _)
  have HW1 := hid hw1
  have HB0_1 := hid (HB0_0.out.trans (hb1.mono HB0_0.out.size))
  clear hw1 hb1
  by_cases h0 : 0 ≤ f
  · by_cases h1 : f ≤ u
    · have HDI := hid (decide_eq_true (show 0 ≤ f ∧ f ≤ u from ⟨h0, h1⟩))
      by_cases hu : u ≤ 1000000000
      · have HDU := hid (decide_eq_true hu)
        by_cases hn : kn = 1
        · have hq : ((kn : Int) == 1) = true := by rw [hn]; rfl
          have HDN := hid (HNN.out.trans (decide_eq_true hn))
          clear hn
          by_cases h6 : kk = 6
          · have hq6 : ((kk : Int) == 6) = true := by rw [h6]; rfl
            have HD6 := hid (decide_eq_true h6)
            clear h6
            go_enter Tryd.func125, Tryd.ntmps125
            go_wp2_with (go_at_call 145; rw [← HW1.out]; refine (CN.out _ (tab_on HTAB.out hG HB0_1.out) (Nat.lt_of_lt_of_le hG HB0_1.out.size)).mono ?_; rintro e w2 ⟨rfl, hb2⟩; refine Hid.out ?_)
            refine hid ?_
            have hz2 := hb2.size
            have HB0_2 := hid (HB0_1.out.trans (hb2.mono HB0_1.out.size))
            have HVC_2 := hid ((hb2.block _ (by omega)).trans HVC_1.out)
            clear HB0_1 HVC_1
            clear hb2
            have k_C_0 := (cell_of_row _ _ 0 _ _ _ HVC_2.out).trans rfl
            have k_C_1 := (cell_of_row _ _ 1 _ _ _ HVC_2.out).trans rfl
            have k_C_2 := (cell_of_row _ _ 2 _ _ _ HVC_2.out).trans rfl
            have k_C_3 := (cell_of_row _ _ 3 _ _ _ HVC_2.out).trans rfl
            have k_C_4 := (cell_of_row _ _ 4 _ _ _ HVC_2.out).trans rfl
            go_wp2_with (go_at_call 145; refine (CK.out _ (tab_on HTAB.out hG HB0_2.out) (Nat.lt_of_lt_of_le hG HB0_2.out.size)).mono ?_; rintro e w3 ⟨rfl, hb3⟩; refine Hid.out ?_)
            refine hid ?_
            clear k_C_0 k_C_1 k_C_2 k_C_3 k_C_4
            have hz3 := hb3.size
            have HB0_3 := hid (HB0_2.out.trans (hb3.mono HB0_2.out.size))
            have HVC_3 := hid ((hb3.block _ (by omega)).trans HVC_2.out)
            clear HB0_2 HVC_2
            clear hb3
            have k_C_0 := (cell_of_row _ _ 0 _ _ _ HVC_3.out).trans rfl
            have k_C_1 := (cell_of_row _ _ 1 _ _ _ HVC_3.out).trans rfl
            have k_C_2 := (cell_of_row _ _ 2 _ _ _ HVC_3.out).trans rfl
            have k_C_3 := (cell_of_row _ _ 3 _ _ _ HVC_3.out).trans rfl
            have k_C_4 := (cell_of_row _ _ 4 _ _ _ HVC_3.out).trans rfl
            go_wp2_with (go_at_call 145; refine (CS.out _ (tab_on HTAB.out hG HB0_3.out) (Nat.lt_of_lt_of_le hG HB0_3.out.size)).mono ?_; rintro e w4 ⟨rfl, hb4⟩; refine Hid.out ?_)
            refine hid ?_
            clear k_C_0 k_C_1 k_C_2 k_C_3 k_C_4
            have hz4 := hb4.size
            have HB0_4 := hid (HB0_3.out.trans (hb4.mono HB0_3.out.size))
            have HVC_4 := hid ((hb4.block _ (by omega)).trans HVC_3.out)
            clear HB0_3 HVC_3
            clear hb4
            go_wp2
            go_ret
            exact ⟨by rw [HI.out]; rw [HDN.out, HD6.out, HDI.out, HDU.out]; exact last_test2 ks, HB0_4.out⟩
          · have hq6 : ((kk : Int) == 6) = false := by rw [beq_eq_false_iff_ne]; omega
            have HD6 := hid (decide_eq_false h6)
            clear h6
            go_enter Tryd.func125, Tryd.ntmps125
            go_wp2_with (go_at_call 145; rw [← HW1.out]; refine (CN.out _ (tab_on HTAB.out hG HB0_1.out) (Nat.lt_of_lt_of_le hG HB0_1.out.size)).mono ?_; rintro e w2 ⟨rfl, hb2⟩; refine Hid.out ?_)
            refine hid ?_
            have hz2 := hb2.size
            have HB0_2 := hid (HB0_1.out.trans (hb2.mono HB0_1.out.size))
            have HVC_2 := hid ((hb2.block _ (by omega)).trans HVC_1.out)
            clear HB0_1 HVC_1
            clear hb2
            have k_C_0 := (cell_of_row _ _ 0 _ _ _ HVC_2.out).trans rfl
            have k_C_1 := (cell_of_row _ _ 1 _ _ _ HVC_2.out).trans rfl
            have k_C_2 := (cell_of_row _ _ 2 _ _ _ HVC_2.out).trans rfl
            have k_C_3 := (cell_of_row _ _ 3 _ _ _ HVC_2.out).trans rfl
            have k_C_4 := (cell_of_row _ _ 4 _ _ _ HVC_2.out).trans rfl
            go_wp2_with (go_at_call 145; refine (CK.out _ (tab_on HTAB.out hG HB0_2.out) (Nat.lt_of_lt_of_le hG HB0_2.out.size)).mono ?_; rintro e w3 ⟨rfl, hb3⟩; refine Hid.out ?_)
            refine hid ?_
            clear k_C_0 k_C_1 k_C_2 k_C_3 k_C_4
            have hz3 := hb3.size
            have HB0_3 := hid (HB0_2.out.trans (hb3.mono HB0_2.out.size))
            have HVC_3 := hid ((hb3.block _ (by omega)).trans HVC_2.out)
            clear HB0_2 HVC_2
            clear hb3
            go_wp2
            go_ret
            exact ⟨by rw [HI.out]; rw [HDN.out, HD6.out]; rfl, HB0_3.out⟩
        · have hq : ((kn : Int) == 1) = false := by rw [beq_eq_false_iff_ne]; omega
          have HDN := hid (HNN.out.trans (decide_eq_false hn))
          clear hn
          go_enter Tryd.func125, Tryd.ntmps125
          go_wp2_with (go_at_call 145; rw [← HW1.out]; refine (CN.out _ (tab_on HTAB.out hG HB0_1.out) (Nat.lt_of_lt_of_le hG HB0_1.out.size)).mono ?_; rintro e w2 ⟨rfl, hb2⟩; refine Hid.out ?_)
          refine hid ?_
          have hz2 := hb2.size
          have HB0_2 := hid (HB0_1.out.trans (hb2.mono HB0_1.out.size))
          have HVC_2 := hid ((hb2.block _ (by omega)).trans HVC_1.out)
          clear HB0_1 HVC_1
          clear hb2
          go_wp2
          go_ret
          exact ⟨by rw [HI.out]; rw [HDN.out]; rfl, HB0_2.out⟩
      · have HDU := hid (decide_eq_false hu)
        clear HB0_0 HB0_1 HVC_1 HW1
        clear hz1
        clear w1
        go_enter Tryd.func125, Tryd.ntmps125
        go_wp2
        go_ret
        exact ⟨by rw [HI.out]; rw [HDI.out, HDU.out]; simp, (Below.refl _ _).alloc (Nat.le_refl _) _⟩
    · have HDI := hid (decide_eq_false (show ¬ (0 ≤ f ∧ f ≤ u) from fun h => h1 h.2))
      clear HB0_0 HB0_1 HVC_1 HW1
      clear hz1
      clear w1
      go_enter Tryd.func125, Tryd.ntmps125
      go_wp2
      go_ret
      exact ⟨by rw [HI.out]; rw [HDI.out]; simp, (Below.refl _ _).alloc (Nat.le_refl _) _⟩
  · have HDI := hid (decide_eq_false (show ¬ (0 ≤ f ∧ f ≤ u) from fun h => h0 h.1))
    clear HB0_0 HB0_1 HVC_1 HW1
    clear hz1
    clear w1
    go_enter Tryd.func125, Tryd.ntmps125
    go_wp2
    go_ret
    exact ⟨by rw [HI.out]; rw [HDI.out]; simp, (Below.refl _ _).alloc (Nat.le_refl _) _⟩
end Go.Proofs.YtponjghppnpnhaaDoor
