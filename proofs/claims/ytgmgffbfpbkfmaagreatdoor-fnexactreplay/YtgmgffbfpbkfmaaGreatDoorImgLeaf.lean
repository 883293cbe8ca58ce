/- One event looked at, the program's. -/
import Derived.Test.YtgmgffbfpbkfmaaGreatDoorImgPlain
import Derived.Test.YtgmgffbfpbkfmaaGreatDoorFaceKind
import Derived.Test.YtgmgffbfpbkfmaaGreatDoorLooksBoth
namespace Go.Proofs.YtgmgffbfpbkfmaaGreatDoor
open Go.RowKit
open Go.Lib (hid)

theorem ireg_calls (n : Int) (w : World) :
    Calls Tryz.prog 168 #[.int .i64 n] w fun e w' => e = .returned (.bool (decide (0 ≤ n ∧ n ≤ 7))) ∧ w' = w := by
  by_cases h0 : 0 ≤ n
  · by_cases h1 : n < 8
    · have h2 : decide (0 ≤ n ∧ n ≤ 7) = true := decide_eq_true ⟨h0, by omega⟩
      rw [h2]
      go_enter Tryz.func168, Tryz.ntmps168
      go_wp2
      go_ret
      exact ⟨by simp, rfl⟩
    · have h2 : decide (0 ≤ n ∧ n ≤ 7) = false := decide_eq_false (fun h => h1 (by omega))
      rw [h2]
      go_enter Tryz.func168, Tryz.ntmps168
      go_wp2
      go_ret
      exact ⟨by first | rfl | simp | (simp; omega), rfl⟩
  · have h2 : decide (0 ≤ n ∧ n ≤ 7) = false := decide_eq_false (fun h => h0 h.1)
    rw [h2]
    go_enter Tryz.func168, Tryz.ntmps168
    go_wp2
    go_ret
    exact ⟨rfl, rfl⟩

set_option maxRecDepth 20000 in
theorem right_impl (x : Int) (y : ByteArray) (w : World) (hT : Tab w) (hG : 0 < w.heap.size) :
    Calls Tryz.prog 151 #[.agg #[.int .i64 x, .string y]] w fun e w' => e = .returned (.bool (decide ((0 ≤ x ∧ x ≤ 7) ∧ (nodeOf y).1 ≠ 0))) ∧ Below w.heap.size w w' := by
  have HT := hid hT
  clear hT
  obtain ⟨w1, hw1⟩ : ∃ W, W = w.alloc (.cells #[.int .i64 x, .string y] 131) := ⟨_, rfl⟩
  have HB1 : Hid (Below w.heap.size w w1) := hid (by rw [hw1]; exact (Below.refl _ _).alloc (Nat.le_refl _) _)
  have HV1 : Hid (w1.heap[w.heap.size]? = some (.cells #[.int .i64 x, .string y] 131)) := hid (by rw [hw1]; exact heap_alloc_new _ _)
  have HW1 := hid hw1
  clear hw1
  have k0 : w1.cell? ⟨w.heap.size, 0, none⟩ = some (.int .i64 x) := (cell_of_row _ _ 0 _ _ _ HV1.out).trans rfl
  have k1 : w1.cell? ⟨w.heap.size, 1, none⟩ = some (.string y) := (cell_of_row _ _ 1 _ _ _ HV1.out).trans rfl
  have CR := hid (fun W => ireg_calls x W)
  by_cases hx : 0 ≤ x ∧ x ≤ 7
  · rw [decide_eq_true hx] at CR
    have HX := hid hx
    clear hx
    have CK := hid (fun W hT hG => kind_impl y W hT hG)
    by_cases hk : (nodeOf y).1 = 0
    · rw [decide_eq_false (fun h => h.2 hk)]
      rw [hk] at CK
      clear hk
      go_enter Tryz.func151, Tryz.ntmps151
      go_wp2_with (first | (go_at_call 168; rw [← HW1.out]; refine (CR.out _).mono ?_; rintro e w2 ⟨rfl, e2⟩; rw [e2]; clear e2 w2) | (go_at_call 54; refine (CK.out _ (tab_on HT.out hG HB1.out) (Nat.lt_of_lt_of_le hG HB1.out.size)).mono ?_; rintro e w3 ⟨rfl, hb3⟩; refine Hid.out ?_))
      refine hid ?_
      go_wp2
      go_ret
      exact ⟨rfl, HB1.out.trans (hb3.mono HB1.out.size)⟩
    · rw [decide_eq_true ⟨HX.out, hk⟩]
      have hkb : (((nodeOf y).1 : Int) != 0) = true := by simp; omega
      have hkk : ¬ ((nodeOf y).1 : Int) = 0 := by omega
      generalize (nodeOf y).1 = kk at *
      go_enter Tryz.func151, Tryz.ntmps151
      go_wp2_with (first | (go_at_call 168; rw [← HW1.out]; refine (CR.out _).mono ?_; rintro e w2 ⟨rfl, e2⟩; rw [e2]; clear e2 w2) | (go_at_call 54; refine (CK.out _ (tab_on HT.out hG HB1.out) (Nat.lt_of_lt_of_le hG HB1.out.size)).mono ?_; rintro e w3 ⟨rfl, hb3⟩; refine Hid.out ?_))
      refine hid ?_
      go_wp2
      go_ret
      exact ⟨by simp, HB1.out.trans (hb3.mono HB1.out.size)⟩
  · rw [decide_eq_false hx] at CR
    rw [decide_eq_false (fun h => hx h.1)]
    clear hx
    go_enter Tryz.func151, Tryz.ntmps151
    go_wp2_with (go_at_call 168; rw [← HW1.out]; refine (CR.out _).mono ?_; rintro e w2 ⟨rfl, e2⟩; rw [e2]; clear e2 w2)
    go_ret
    exact ⟨rfl, HB1.out⟩

/-- What an event is looked at as. -/
def lookV (x : Int) (y : ByteArray) : Value :=
  if (looksO y).1 = true then .iface 215 (.agg #[.int .i64 x, .string y, .int .i64 (looksO y).2.1, .string (bytesOf (looksO y).2.2.1), .int .i64 (looksO y).2.2.2]) else .iface 131 (.agg #[.int .i64 x, .string y])

set_option maxRecDepth 20000 in
set_option maxHeartbeats 2000000 in
theorem lookAt_impl (x : Int) (y : ByteArray) (w : World) (hT : Tab w) (hG : 0 < w.heap.size) (hL : Num.Laid w) :
    Calls Tryz.prog 94 #[.agg #[.int .i64 x, .string y]] w fun e w' => e = .returned (lookV x y) ∧ Below w.heap.size w w' := by
  have HT := hid hT
  have HLD := hid hL
  clear hT hL
  unfold lookV
  obtain ⟨w1, hw1⟩ : ∃ W, W = w.alloc (.cells #[.int .i64 x, .string y] 131) := ⟨_, rfl⟩
  have HB1 : Hid (Below w.heap.size w w1) := hid (by rw [hw1]; exact (Below.refl _ _).alloc (Nat.le_refl _) _)
  have HV1 : Hid (w1.heap[w.heap.size]? = some (.cells #[.int .i64 x, .string y] 131)) := hid (by rw [hw1]; exact heap_alloc_new _ _)
  have hz1 : w1.heap.size = w.heap.size + 1 := by rw [hw1]; simp
  have HW1 := hid hw1
  clear hw1
  have k0 : w1.cell? ⟨w.heap.size, 0, none⟩ = some (.int .i64 x) := (cell_of_row _ _ 0 _ _ _ HV1.out).trans rfl
  have k1 : w1.cell? ⟨w.heap.size, 1, none⟩ = some (.string y) := (cell_of_row _ _ 1 _ _ _ HV1.out).trans rfl
  have CL := hid (fun W hT hG hL => looks_impl y W hT hG hL)
  unfold LooksPost at CL
  generalize looksO y = r at *
  obtain ⟨rb, rl, rn, rv⟩ := r
  dsimp only at CL ⊢
  go_enter Tryz.func94, Tryz.ntmps94
  go_wp2_with (go_at_call 154; rw [← HW1.out]; refine (CL.out _ (tab_on HT.out hG HB1.out) (Nat.lt_of_lt_of_le hG HB1.out.size) (HLD.out.on HB1.out)).mono ?_; rintro e w2 ⟨rfl, hb2⟩; refine Hid.out ?_)
  refine hid ?_
  have HB2 := hid (HB1.out.trans (hb2.mono HB1.out.size))
  obtain ⟨w3, hw3⟩ : ∃ W, W = w2.alloc (.cells #[.string (bytesOf rn), .int .i64 rv] 66) := ⟨_, rfl⟩
  have HB3 : Hid (Below w.heap.size w w3) := hid (by rw [hw3]; exact HB2.out.alloc HB2.out.size _)
  have HV3 : Hid (w3.heap[w2.heap.size]? = some (.cells #[.string (bytesOf rn), .int .i64 rv] 66)) := hid (by rw [hw3]; exact heap_alloc_new _ _)
  have HE3 : Hid (w3.heap[w.heap.size]? = some (.cells #[.int .i64 x, .string y] 131)) := hid (by rw [hw3]; exact (((Below.refl w2.heap.size w2).alloc (Nat.le_refl _) _).block _ (by have := hb2.size; omega)).trans ((hb2.block _ (by omega)).trans HV1.out))
  have HW3 := hid hw3
  have j0 : w3.cell? ⟨w.heap.size, 0, none⟩ = some (.int .i64 x) := (cell_of_row _ _ 0 _ _ _ HE3.out).trans rfl
  have j1 : w3.cell? ⟨w.heap.size, 1, none⟩ = some (.string y) := (cell_of_row _ _ 1 _ _ _ HE3.out).trans rfl
  have i0 : w3.cell? ⟨w2.heap.size, 0, none⟩ = some (.string (bytesOf rn)) := (cell_of_row _ _ 0 _ _ _ HV3.out).trans rfl
  have i1 : w3.cell? ⟨w2.heap.size, 1, none⟩ = some (.int .i64 rv) := (cell_of_row _ _ 1 _ _ _ HV3.out).trans rfl
  clear k0 k1 hw3 hb2
  rw [HW3.out] at j0 j1 i0 i1
  cases rb with
  | true =>
    go_wp2
    go_ret
    exact ⟨rfl, by rw [← HW3.out]; exact HB3.out⟩
  | false =>
    go_wp2
    go_ret
    exact ⟨rfl, by rw [← HW3.out]; exact HB3.out⟩

end Go.Proofs.YtgmgffbfpbkfmaaGreatDoor
