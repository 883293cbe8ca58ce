/- The law on CertBy, walked: it answers true. -/
import Derived.Test.YtemjfhgjdiijkaaDoorCertBoth
import Derived.Test.YtemjfhgjdiijkaaDoorRowCert
import Derived.Test.YtemjfhgjdiijkaaDoorLawKit
namespace Go.Proofs.YtemjfhgjdiijkaaDoor
open Go.RowKit
open Go.Lib (hid)

set_option maxRecDepth 20000 in
set_option maxHeartbeats 4000000 in
theorem law_certby (secret name key : ByteArray) (f u : Int) (w : World) (hT : Tab w) (hG : 0 < w.heap.size) (hP : Lib.TabIs Tryd.prog w "internal/strconv.uint64pow10" .u64 Lib.pow10Tab) :
    Calls Tryd.prog 3 #[.string secret, .string name, .string key, .int .i64 f, .int .i64 u] w fun e w' => e = .returned (.bool true) ∧ Below w.heap.size w w' := by
  have HTAB := hid hT
  have HPW := hid hP
  by_cases h1 : secret.size ≤ 1048576
  · have g1 : ¬ (secret.size : Int) > 1048576 := by omega
    by_cases h2 : name.size ≤ 1048576
    · have g2 : ¬ (name.size : Int) > 1048576 := by omega
      by_cases h3 : key.size ≤ 1048576
      · have g3 : ¬ (key.size : Int) > 1048576 := by omega
        have CS := hid (fun W => certby_spec secret name key f u h3 W)
        have CI := hid (fun W hT hG hP => certby_impl secret name key f u W hT hG hP)
        obtain ⟨q0, q1, q2, q3, q4, hv⟩ := certV_parts name key f u (certO secret.data.toList name key f u)
        rw [hv] at CS CI
        clear hv
        generalize (certO secret.data.toList name key f u).1 = ok at *
        have hok : (ok != ok) = false := by cases ok <;> rfl
        clear hT hP
        have HB0_0 : Hid (Below w.heap.size w w) := hid (Below.refl _ _)
        have hz0 : w.heap.size ≤ w.heap.size := Nat.le_refl _
        go_enter Tryd.func3, Tryd.ntmps3
        go_wp2_with (go_at_call 10; refine (CS.out _).mono ?_; rintro e w1 ⟨rfl, hb1⟩; refine Hid.out ?_)
        refine hid ?_
        have hz1 := hb1.size
        have HB0_1 := hid (HB0_0.out.trans (hb1.mono HB0_0.out.size))
        clear hb1
        obtain ⟨w2, hw2⟩ : ∃ W, W = w1.alloc (.cells #[.string q0, .string q1, .int .i64 q2, .int .i64 q3, .string q4] 23) := ⟨_, rfl⟩
        have hb2 : Below w1.heap.size w1 w2 := by rw [hw2]; exact (Below.refl _ _).alloc (Nat.le_refl _) _
        have hz2 : w1.heap.size < w2.heap.size := by rw [hw2]; simp
        have HVW_2 : Hid (w2.heap[w1.heap.size]? = some (.cells #[.string q0, .string q1, .int .i64 q2, .int .i64 q3, .string q4] 23)) := hid (by rw [hw2]; exact heap_alloc_new _ _)
        have HW2 := hid hw2
        have HB0_2 := hid (HB0_1.out.trans (hb2.mono HB0_1.out.size))
        clear HB0_1
        clear hw2 hb2
        go_wp2_with (go_at_call 11; rw [← HW2.out]; refine (CI.out _ (tab_on HTAB.out hG HB0_2.out) (Nat.lt_of_lt_of_le hG HB0_2.out.size) (Num.tab_stays HB0_2.out HPW.out)).mono ?_; rintro e w3 ⟨rfl, hb3⟩; refine Hid.out ?_)
        refine hid ?_
        have hz3 := hb3.size
        have HB0_3 := hid (HB0_2.out.trans (hb3.mono HB0_2.out.size))
        have HVW_3 := hid ((hb3.block _ (by omega)).trans HVW_2.out)
        clear HB0_2 HVW_2
        clear hb3
        obtain ⟨w4, hw4⟩ : ∃ W, W = w3.alloc (.cells #[.string q0, .string q1, .int .i64 q2, .int .i64 q3, .string q4] 23) := ⟨_, rfl⟩
        have hb4 : Below w3.heap.size w3 w4 := by rw [hw4]; exact (Below.refl _ _).alloc (Nat.le_refl _) _
        have hz4 : w3.heap.size < w4.heap.size := by rw [hw4]; simp
        have HVG_4 : Hid (w4.heap[w3.heap.size]? = some (.cells #[.string q0, .string q1, .int .i64 q2, .int .i64 q3, .string q4] 23)) := hid (by rw [hw4]; exact heap_alloc_new _ _)
        have HW4 := hid hw4
        have HB0_4 := hid (HB0_3.out.trans (hb4.mono HB0_3.out.size))
        have HVW_4 := hid ((hb4.block _ (by omega)).trans HVW_3.out)
        clear HB0_3
        clear hw4 hb4
        have kz_W : w1.heap.size < w3.heap.size := by omega
        have k_W_0 := (cell_of_row _ _ 0 _ _ _ HVW_3.out).trans rfl
        have k_W_1 := (cell_of_row _ _ 1 _ _ _ HVW_3.out).trans rfl
        have k_W_2 := (cell_of_row _ _ 2 _ _ _ HVW_3.out).trans rfl
        have k_W_3 := (cell_of_row _ _ 3 _ _ _ HVW_3.out).trans rfl
        have k_W_4 := (cell_of_row _ _ 4 _ _ _ HVW_3.out).trans rfl
        go_wp2_with (go_at_call 12; rw [← HW4.out]; refine (eq_Cert q0 q1 q2 q3 q4 _).mono ?_; rintro e w5 ⟨rfl, hb5⟩; refine Hid.out ?_)
        refine hid ?_
        clear kz_W k_W_0 k_W_1 k_W_2 k_W_3 k_W_4
        clear HVW_3
        have hz5 := hb5.size
        have HB0_5 := hid (HB0_4.out.trans (hb5.mono HB0_4.out.size))
        have HVW_5 := hid ((hb5.block _ (by omega)).trans HVW_4.out)
        have HVG_5 := hid ((hb5.block _ (by omega)).trans HVG_4.out)
        clear HB0_4 HVW_4 HVG_4
        clear hb5
        go_wp2
        go_ret
        exact ⟨rfl, HB0_5.out⟩
      · have hd : (key.size : Int) > 1048576 := by omega
        go_enter Tryd.func3, Tryd.ntmps3
        go_wp2
        go_ret
        exact ⟨rfl, Below.refl _ _⟩
    · have hd : (name.size : Int) > 1048576 := by omega
      go_enter Tryd.func3, Tryd.ntmps3
      go_wp2
      go_ret
      exact ⟨rfl, Below.refl _ _⟩
  · have hd : (secret.size : Int) > 1048576 := by omega
    go_enter Tryd.func3, Tryd.ntmps3
    go_wp2
    go_ret
    exact ⟨rfl, Below.refl _ _⟩
end Go.Proofs.YtemjfhgjdiijkaaDoor
