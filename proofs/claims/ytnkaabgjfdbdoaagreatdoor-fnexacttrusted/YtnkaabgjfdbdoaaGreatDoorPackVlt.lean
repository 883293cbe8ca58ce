/- Laid together: VltPlain, SealBoth, AwayBoth, VltSpec, VltImpl. -/
import Derived.Test.YtnkaabgjfdbdoaaGreatDoorRowSeal
import Derived.Test.YtnkaabgjfdbdoaaGreatDoorPackMk
import Derived.Test.YtnkaabgjfdbdoaaGreatDoorPackNum
import Derived.Test.YtnkaabgjfdbdoaaGreatDoorPackFold
import Derived.Test.YtnkaabgjfdbdoaaGreatDoorStVault
import Derived.Deep.QuietTactic
import Derived.BigQuiet
import Derived.RegionTactic
import Derived.Deep.RegionHeld3

namespace Go.Proofs.YtnkaabgjfdbdoaaGreatDoor
open Go.RowKit
open Go.Lib (hid)

def sealB (e : SealD) : Bool := decide (0 ≤ e.x0 ∧ e.x0 ≤ 7) && (decide (1 ≤ e.x1 ∧ e.x1 ≤ 255) && (decide ((nodeOf e.x2).1 ≠ 0) && decide ((nodeOf e.x3).1 ≠ 0)))
def bareB (e : SealD) : Bool := decide (e.x1 = 0) && (decide (e.x2.size = 0) && decide (e.x3.size = 0))
def awayB (e : SealD) : Bool := decide (0 ≤ e.x0 ∧ e.x0 ≤ 7) && bareB e
def quietB (e : SealD) : Bool := decide (e.x0 = 0) && bareB e

def sealGood (es : List SealD) (i : Nat) : Bool := sealB (es.getD i zSeal) && decide (0 < i → (es.getD (i - 1) zSeal).x0 < (es.getD i zSeal).x0)
def sealsB (es : List SealD) (n : Nat) : Bool := (List.range n).all (sealGood es)
def pendB (st : Int) (q : SealD) : Bool := if st = 0 then quietB q else if st = 1 ∨ st = 2 then (sealB q || awayB q) else false

/-- Is it a right Vault. -/
def vaultB (es : List SealD) (st : Int) (q : SealD) : Bool := sealsB es es.length && pendB st q

theorem seals_succ (es : List SealD) (n : Nat) : sealsB es (n + 1) = (sealsB es n && sealGood es n) := by
  unfold sealsB
  rw [List.range_succ, List.all_append]
  simp

theorem seals_no {es : List SealD} {n m : Nat} (h : sealGood es n = false) (hm : n < m) : sealsB es m = false := by
  rw [Bool.eq_false_iff]
  intro ht
  unfold sealsB at ht
  rw [List.all_eq_true] at ht
  have := ht n (List.mem_range.2 hm)
  rw [h] at this
  cases this

theorem seal_at {es : List SealD} {i : Nat} (h : i < es.length) : es.getD i zSeal = es[i] := by simp [List.getD, h]

theorem sealB_slot {e : SealD} (h : sealB e = true) : 0 ≤ e.x0 ∧ e.x0 ≤ 7 := by
  unfold sealB at h
  rw [Bool.and_eq_true] at h
  exact of_decide_eq_true h.1

theorem seals_slot {es : List SealD} {n : Nat} (h : sealsB es (n + 1) = true) : (n : Int) ≤ (es.getD n zSeal).x0 := by
  induction n with
  | zero =>
    rw [seals_succ, Bool.and_eq_true] at h
    have h2 := h.2
    unfold sealGood at h2
    rw [Bool.and_eq_true] at h2
    exact (sealB_slot h2.1).1
  | succ n ih =>
    rw [seals_succ, Bool.and_eq_true] at h
    have h1 := ih h.1
    have h2 := h.2
    unfold sealGood at h2
    rw [Bool.and_eq_true] at h2
    have h3 := of_decide_eq_true h2.2 (Nat.succ_pos n)
    rw [Nat.add_sub_cancel] at h3
    omega

/-- Rising slots of 0 to 7 are eight at most. -/
theorem seals_few {es : List SealD} {n : Nat} (h : sealsB es n = true) : n ≤ 8 := by
  cases n with
  | zero => omega
  | succ n =>
    have h1 := seals_slot h
    rw [seals_succ, Bool.and_eq_true] at h
    have h2 := h.2
    unfold sealGood at h2
    rw [Bool.and_eq_true] at h2
    have := (sealB_slot h2.1).2
    omega

/-- The slot ahead of a place. -/
def lastS (es : List SealD) (i : Nat) : Int := if i = 0 then -1 else (es.getD (i - 1) zSeal).x0
theorem lastS_zero (es : List SealD) : lastS es 0 = -1 := rfl
theorem lastS_succ {es : List SealD} {i : Nat} (h : i < es.length) : lastS es (i + 1) = es[i].x0 := by
  unfold lastS
  rw [if_neg (Nat.succ_ne_zero i), Nat.add_sub_cancel, seal_at h]

theorem good_last {es : List SealD} {i : Nat} (h : i < es.length) : sealGood es i = (decide (lastS es i < es[i].x0) && sealB es[i]) := by
  unfold sealGood
  rw [seal_at h, Bool.and_comm]
  cases i with
  | zero =>
    rw [lastS_zero]
    cases hb : sealB (es[0]'h) with
    | false => simp
    | true =>
      have := (sealB_slot hb).1
      rw [decide_eq_true (show (-1 : Int) < (es[0]'h).x0 by omega)]
      simp
  | succ j =>
    rw [lastS_succ (by omega), Nat.add_sub_cancel, seal_at (by omega)]
    congr 1
    rw [decide_eq_decide]
    simp

theorem size_zero (x : ByteArray) : (x.toList == (⟨#[]⟩ : ByteArray).toList) = decide (x.size = 0) := by
  rw [Bool.eq_iff_iff, beq_iff_eq, decide_eq_true_iff, Lib.toList_data, Lib.toList_data]
  constructor
  · intro h
    have h1 : x.data.toList.length = x.size := by simp
    rw [h] at h1
    simpa using h1.symm
  · intro h
    have h1 : x.data.toList.length = x.size := by simp
    rw [h] at h1
    exact List.eq_nil_of_length_eq_zero h1

theorem seal_eql (x0 y0 x1 : Int) (x2 x3 : ByteArray) (w : World) :
    (binOp .eql 43 (.agg #[.int .i64 x0, .int .i64 x1, .string x2, .string x3]) (.agg #[.int .i64 y0, .int .i64 0, .string ⟨#[]⟩, .string ⟨#[]⟩])).run Tryz.prog w = .ok (.bool (decide (x0 = y0) && bareB ⟨x0, x1, x2, x3⟩)) w := by
  unfold bareB
  dsimp only
  rw [← size_zero, ← size_zero]
  have e : (⟨#[]⟩ : ByteArray).toList = [] := by rw [Lib.toList_data]
  rw [e]
  by_cases h0 : x0 = y0
  · by_cases h1 : x1 = 0
    · by_cases a2 : x2.toList = []
      · by_cases a3 : x3.toList = []
        · simp [go_sem, h0, h1, a2, a3]
        · simp [go_sem, h0, h1, a2, a3]
      · simp [go_sem, h0, h1, a2]
    · simp [go_sem, h0, h1]
  · simp [go_sem, h0]
end Go.Proofs.YtnkaabgjfdbdoaaGreatDoor

namespace Go.Proofs.YtnkaabgjfdbdoaaGreatDoor
open Go.RowKit
open Go.Lib (hid)

theorem isSlot_calls (x : Int) (w : World) : Calls Tryz.prog 178 #[.int .i64 x] w fun e w' => e = .returned (.bool (decide (0 ≤ x ∧ x ≤ 7))) ∧ w' = w := by
  by_cases h0 : 0 ≤ x
  · by_cases h1 : x ≤ 7
    · go_enter Tryz.func178, Tryz.ntmps178
      go_wp2
      go_ret
      exact ⟨by simp [h0, h1]; omega, rfl⟩
    · go_enter Tryz.func178, Tryz.ntmps178
      go_wp2
      go_ret
      exact ⟨by simp; omega, rfl⟩
  · go_enter Tryz.func178, Tryz.ntmps178
    go_wp2
    go_ret
    exact ⟨by simp; omega, rfl⟩

set_option maxRecDepth 20000 in
set_option maxHeartbeats 4000000 in
theorem seal_spec (x0 x1 : Int) (x2 x3 : ByteArray) (h2 : x2.size ≤ 1048576) (h3 : x3.size ≤ 1048576) (w : World) :
    Calls Tryz.prog 89 #[.agg #[.int .i64 x0, .int .i64 x1, .string x2, .string x3]] w fun e w' => e = .returned (.bool (sealB ⟨x0, x1, x2, x3⟩)) ∧ Below w.heap.size w w' := by
  have HR : Hid (sealB ⟨x0, x1, x2, x3⟩ = (decide (0 ≤ x0 ∧ x0 ≤ 7) && (decide (1 ≤ x1 ∧ x1 ≤ 255) && (decide ((nodeOf x2).1 ≠ 0) && decide ((nodeOf x3).1 ≠ 0))))) := hid rfl
  have C1 := hid (fun W => in_any x0 0 7 W)
  have C2 := hid (fun W => in_any x1 1 255 W)
  have CA := hid (fun W => kind_spec x2 W h2)
  have CB := hid (fun W => kind_spec x3 W h3)
  clear h2 h3
  generalize sealB ⟨x0, x1, x2, x3⟩ = r at *
  generalize (nodeOf x2).1 = k2 at *
  generalize (nodeOf x3).1 = k3 at *
  have HB0_0 : Hid (Below w.heap.size w w) := hid (Below.refl _ _)
  have hz0 : w.heap.size ≤ w.heap.size := Nat.le_refl _
  obtain ⟨w1, hw1⟩ : ∃ W, W = w.alloc (.cells #[.int .i64 x0, .int .i64 x1, .string x2, .string x3] 43) := ⟨_, rfl⟩
  have hb1 : Below w.heap.size w w1 := by rw [hw1]; exact (Below.refl _ _).alloc (Nat.le_refl _) _
  have hz1 : w.heap.size < w1.heap.size := by rw [hw1]; simp
  have HVS_1 : Hid (w1.heap[w.heap.size]? = some (.cells #[.int .i64 x0, .int .i64 x1, .string x2, .string x3] 43)) := hid (by rw [hw1]; exact heap_alloc_new _ _)
  have HW1 := hid hw1
  have HB0_1 := hid (HB0_0.out.trans (hb1.mono HB0_0.out.size))
  clear hw1 hb1
  cases h1 : decide (0 ≤ x0 ∧ x0 ≤ 7) with
  | false =>
    rw [h1] at C1 HR
    clear h1
    go_enter Tryz.func89, Tryz.ntmps89
    go_wp2_with (go_at_call_of 77 (Value.int .i64 x0); rw [← HW1.out]; refine (C1.out _).mono ?_; rintro e wq ⟨rfl, eq⟩; rw [eq]; clear eq wq; refine Hid.out ?_)
    refine hid ?_
    go_wp2
    go_ret
    exact ⟨by rw [HR.out]; (first | rfl | simp | (simp; omega) | (congr 2; simp; omega)), HB0_1.out⟩
  | true =>
    rw [h1] at C1 HR
    clear h1
    cases h2 : decide (1 ≤ x1 ∧ x1 ≤ 255) with
    | false =>
      rw [h2] at C2 HR
      clear h2
      go_enter Tryz.func89, Tryz.ntmps89
      go_wp2_with (go_at_call_of 77 (Value.int .i64 x0); rw [← HW1.out]; refine (C1.out _).mono ?_; rintro e wq ⟨rfl, eq⟩; rw [eq]; clear eq wq; refine Hid.out ?_)
      refine hid ?_
      have k_S_0 := (cell_of_row _ _ 0 _ _ _ HVS_1.out).trans rfl
      have k_S_1 := (cell_of_row _ _ 1 _ _ _ HVS_1.out).trans rfl
      have k_S_2 := (cell_of_row _ _ 2 _ _ _ HVS_1.out).trans rfl
      have k_S_3 := (cell_of_row _ _ 3 _ _ _ HVS_1.out).trans rfl
      go_wp2_with (go_at_call_of 77 (Value.int .i64 x1); refine (C2.out _).mono ?_; rintro e wq ⟨rfl, eq⟩; rw [eq]; clear eq wq; refine Hid.out ?_)
      refine hid ?_
      go_wp2
      go_ret
      exact ⟨by rw [HR.out]; (first | rfl | simp | (simp; omega) | (congr 2; simp; omega)), HB0_1.out⟩
    | true =>
      rw [h2] at C2 HR
      clear h2
      by_cases hk2 : k2 = 0
      · subst hk2
        go_enter Tryz.func89, Tryz.ntmps89
        go_wp2_with (go_at_call_of 77 (Value.int .i64 x0); rw [← HW1.out]; refine (C1.out _).mono ?_; rintro e wq ⟨rfl, eq⟩; rw [eq]; clear eq wq; refine Hid.out ?_)
        refine hid ?_
        have k_S_0 := (cell_of_row _ _ 0 _ _ _ HVS_1.out).trans rfl
        have k_S_1 := (cell_of_row _ _ 1 _ _ _ HVS_1.out).trans rfl
        have k_S_2 := (cell_of_row _ _ 2 _ _ _ HVS_1.out).trans rfl
        have k_S_3 := (cell_of_row _ _ 3 _ _ _ HVS_1.out).trans rfl
        go_wp2_with (go_at_call_of 77 (Value.int .i64 x1); refine (C2.out _).mono ?_; rintro e wq ⟨rfl, eq⟩; rw [eq]; clear eq wq; refine Hid.out ?_)
        refine hid ?_
        go_wp2_with (go_at_call 78; refine (CA.out _).mono ?_; rintro e w2 ⟨rfl, hb2⟩; refine Hid.out ?_)
        refine hid ?_
        clear k_S_0 k_S_1 k_S_2 k_S_3
        have hz2 := hb2.size
        have HB0_2 := hid (HB0_1.out.trans (hb2.mono HB0_1.out.size))
        have HVS_2 := hid ((hb2.block _ (by omega)).trans HVS_1.out)
        clear HB0_1 HVS_1
        clear hb2
        go_wp2
        go_ret
        exact ⟨by rw [HR.out]; (first | rfl | simp | (simp; omega) | (congr 2; simp; omega)), HB0_2.out⟩
      · obtain ⟨m2, rfl⟩ := Nat.exists_eq_succ_of_ne_zero hk2
        have g2 : ((m2 + 1 : Nat) : Int) > 0 := by omega
        have g2b : (((m2 + 1 : Nat) : Int) != 0) = true := by simp; omega
        by_cases hk3 : k3 = 0
        · subst hk3
          go_enter Tryz.func89, Tryz.ntmps89
          go_wp2_with (go_at_call_of 77 (Value.int .i64 x0); rw [← HW1.out]; refine (C1.out _).mono ?_; rintro e wq ⟨rfl, eq⟩; rw [eq]; clear eq wq; refine Hid.out ?_)
          refine hid ?_
          have k_S_0 := (cell_of_row _ _ 0 _ _ _ HVS_1.out).trans rfl
          have k_S_1 := (cell_of_row _ _ 1 _ _ _ HVS_1.out).trans rfl
          have k_S_2 := (cell_of_row _ _ 2 _ _ _ HVS_1.out).trans rfl
          have k_S_3 := (cell_of_row _ _ 3 _ _ _ HVS_1.out).trans rfl
          go_wp2_with (go_at_call_of 77 (Value.int .i64 x1); refine (C2.out _).mono ?_; rintro e wq ⟨rfl, eq⟩; rw [eq]; clear eq wq; refine Hid.out ?_)
          refine hid ?_
          go_wp2_with (go_at_call 78; refine (CA.out _).mono ?_; rintro e w2 ⟨rfl, hb2⟩; refine Hid.out ?_)
          refine hid ?_
          clear k_S_0 k_S_1 k_S_2 k_S_3
          have hz2 := hb2.size
          have HB0_2 := hid (HB0_1.out.trans (hb2.mono HB0_1.out.size))
          have HVS_2 := hid ((hb2.block _ (by omega)).trans HVS_1.out)
          clear HB0_1 HVS_1
          clear hb2
          have k_S_0 := (cell_of_row _ _ 0 _ _ _ HVS_2.out).trans rfl
          have k_S_1 := (cell_of_row _ _ 1 _ _ _ HVS_2.out).trans rfl
          have k_S_2 := (cell_of_row _ _ 2 _ _ _ HVS_2.out).trans rfl
          have k_S_3 := (cell_of_row _ _ 3 _ _ _ HVS_2.out).trans rfl
          go_wp2_with (go_at_call 78; refine (CB.out _).mono ?_; rintro e w3 ⟨rfl, hb3⟩; refine Hid.out ?_)
          refine hid ?_
          clear k_S_0 k_S_1 k_S_2 k_S_3
          have hz3 := hb3.size
          have HB0_3 := hid (HB0_2.out.trans (hb3.mono HB0_2.out.size))
          have HVS_3 := hid ((hb3.block _ (by omega)).trans HVS_2.out)
          clear HB0_2 HVS_2
          clear hb3
          go_wp2
          go_ret
          exact ⟨by rw [HR.out]; (first | rfl | simp | (simp; omega) | (congr 2; simp; omega)), HB0_3.out⟩
        · obtain ⟨m3, rfl⟩ := Nat.exists_eq_succ_of_ne_zero hk3
          have g3 : ((m3 + 1 : Nat) : Int) > 0 := by omega
          have g3b : (((m3 + 1 : Nat) : Int) != 0) = true := by simp; omega
          go_enter Tryz.func89, Tryz.ntmps89
          go_wp2_with (go_at_call_of 77 (Value.int .i64 x0); rw [← HW1.out]; refine (C1.out _).mono ?_; rintro e wq ⟨rfl, eq⟩; rw [eq]; clear eq wq; refine Hid.out ?_)
          refine hid ?_
          have k_S_0 := (cell_of_row _ _ 0 _ _ _ HVS_1.out).trans rfl
          have k_S_1 := (cell_of_row _ _ 1 _ _ _ HVS_1.out).trans rfl
          have k_S_2 := (cell_of_row _ _ 2 _ _ _ HVS_1.out).trans rfl
          have k_S_3 := (cell_of_row _ _ 3 _ _ _ HVS_1.out).trans rfl
          go_wp2_with (go_at_call_of 77 (Value.int .i64 x1); refine (C2.out _).mono ?_; rintro e wq ⟨rfl, eq⟩; rw [eq]; clear eq wq; refine Hid.out ?_)
          refine hid ?_
          go_wp2_with (go_at_call 78; refine (CA.out _).mono ?_; rintro e w2 ⟨rfl, hb2⟩; refine Hid.out ?_)
          refine hid ?_
          clear k_S_0 k_S_1 k_S_2 k_S_3
          have hz2 := hb2.size
          have HB0_2 := hid (HB0_1.out.trans (hb2.mono HB0_1.out.size))
          have HVS_2 := hid ((hb2.block _ (by omega)).trans HVS_1.out)
          clear HB0_1 HVS_1
          clear hb2
          have k_S_0 := (cell_of_row _ _ 0 _ _ _ HVS_2.out).trans rfl
          have k_S_1 := (cell_of_row _ _ 1 _ _ _ HVS_2.out).trans rfl
          have k_S_2 := (cell_of_row _ _ 2 _ _ _ HVS_2.out).trans rfl
          have k_S_3 := (cell_of_row _ _ 3 _ _ _ HVS_2.out).trans rfl
          go_wp2_with (go_at_call 78; refine (CB.out _).mono ?_; rintro e w3 ⟨rfl, hb3⟩; refine Hid.out ?_)
          refine hid ?_
          clear k_S_0 k_S_1 k_S_2 k_S_3
          have hz3 := hb3.size
          have HB0_3 := hid (HB0_2.out.trans (hb3.mono HB0_2.out.size))
          have HVS_3 := hid ((hb3.block _ (by omega)).trans HVS_2.out)
          clear HB0_2 HVS_2
          clear hb3
          go_wp2
          go_ret
          exact ⟨by rw [HR.out]; (first | rfl | simp | (simp; omega) | (congr 2; simp; omega)), HB0_3.out⟩

set_option maxRecDepth 20000 in
set_option maxHeartbeats 4000000 in
theorem right_impl (x0 x1 : Int) (x2 x3 : ByteArray) (w : World) (hT : Tab w) (hG : 0 < w.heap.size) :
    Calls Tryz.prog 150 #[.agg #[.int .i64 x0, .int .i64 x1, .string x2, .string x3]] w fun e w' => e = .returned (.bool (sealB ⟨x0, x1, x2, x3⟩)) ∧ Below w.heap.size w w' := by
  have HR : Hid (sealB ⟨x0, x1, x2, x3⟩ = (decide (0 ≤ x0 ∧ x0 ≤ 7) && (decide (1 ≤ x1 ∧ x1 ≤ 255) && (decide ((nodeOf x2).1 ≠ 0) && decide ((nodeOf x3).1 ≠ 0))))) := hid rfl
  have C1 := hid (fun W => isSlot_calls x0 W)
  have C2 := hid (fun W => isMask_calls x1 W)
  have CA := hid (fun W hT hG => kind_impl x2 W hT hG)
  have CB := hid (fun W hT hG => kind_impl x3 W hT hG)
  have HTAB := hid hT
  clear hT
  generalize sealB ⟨x0, x1, x2, x3⟩ = r at *
  generalize (nodeOf x2).1 = k2 at *
  generalize (nodeOf x3).1 = k3 at *
  have HB0_0 : Hid (Below w.heap.size w w) := hid (Below.refl _ _)
  have hz0 : w.heap.size ≤ w.heap.size := Nat.le_refl _
  obtain ⟨w1, hw1⟩ : ∃ W, W = w.alloc (.cells #[.int .i64 x0, .int .i64 x1, .string x2, .string x3] 43) := ⟨_, rfl⟩
  have hb1 : Below w.heap.size w w1 := by rw [hw1]; exact (Below.refl _ _).alloc (Nat.le_refl _) _
  have hz1 : w.heap.size < w1.heap.size := by rw [hw1]; simp
  have HVS_1 : Hid (w1.heap[w.heap.size]? = some (.cells #[.int .i64 x0, .int .i64 x1, .string x2, .string x3] 43)) := hid (by rw [hw1]; exact heap_alloc_new _ _)
  have HW1 := hid hw1
  have HB0_1 := hid (HB0_0.out.trans (hb1.mono HB0_0.out.size))
  clear hw1 hb1
  cases h1 : decide (0 ≤ x0 ∧ x0 ≤ 7) with
  | false =>
    rw [h1] at C1 HR
    clear h1
    go_enter Tryz.func150, Tryz.ntmps150
    go_wp2_with (go_at_call 178; rw [← HW1.out]; refine (C1.out _).mono ?_; rintro e wq ⟨rfl, eq⟩; rw [eq]; clear eq wq; refine Hid.out ?_)
    refine hid ?_
    go_wp2
    go_ret
    exact ⟨by rw [HR.out]; (first | rfl | simp | (simp; omega) | (congr 2; simp; omega)), HB0_1.out⟩
  | true =>
    rw [h1] at C1 HR
    clear h1
    cases h2 : decide (1 ≤ x1 ∧ x1 ≤ 255) with
    | false =>
      rw [h2] at C2 HR
      clear h2
      go_enter Tryz.func150, Tryz.ntmps150
      go_wp2_with (go_at_call 178; rw [← HW1.out]; refine (C1.out _).mono ?_; rintro e wq ⟨rfl, eq⟩; rw [eq]; clear eq wq; refine Hid.out ?_)
      refine hid ?_
      have k_S_0 := (cell_of_row _ _ 0 _ _ _ HVS_1.out).trans rfl
      have k_S_1 := (cell_of_row _ _ 1 _ _ _ HVS_1.out).trans rfl
      have k_S_2 := (cell_of_row _ _ 2 _ _ _ HVS_1.out).trans rfl
      have k_S_3 := (cell_of_row _ _ 3 _ _ _ HVS_1.out).trans rfl
      go_wp2_with (go_at_call 179; refine (C2.out _).mono ?_; rintro e wq ⟨rfl, eq⟩; rw [eq]; clear eq wq; refine Hid.out ?_)
      refine hid ?_
      go_wp2
      go_ret
      exact ⟨by rw [HR.out]; (first | rfl | simp | (simp; omega) | (congr 2; simp; omega)), HB0_1.out⟩
    | true =>
      rw [h2] at C2 HR
      clear h2
      by_cases hk2 : k2 = 0
      · subst hk2
        go_enter Tryz.func150, Tryz.ntmps150
        go_wp2_with (go_at_call 178; rw [← HW1.out]; refine (C1.out _).mono ?_; rintro e wq ⟨rfl, eq⟩; rw [eq]; clear eq wq; refine Hid.out ?_)
        refine hid ?_
        have k_S_0 := (cell_of_row _ _ 0 _ _ _ HVS_1.out).trans rfl
        have k_S_1 := (cell_of_row _ _ 1 _ _ _ HVS_1.out).trans rfl
        have k_S_2 := (cell_of_row _ _ 2 _ _ _ HVS_1.out).trans rfl
        have k_S_3 := (cell_of_row _ _ 3 _ _ _ HVS_1.out).trans rfl
        go_wp2_with (go_at_call 179; refine (C2.out _).mono ?_; rintro e wq ⟨rfl, eq⟩; rw [eq]; clear eq wq; refine Hid.out ?_)
        refine hid ?_
        go_wp2_with (go_at_call 40; refine (CA.out _ (tab_on HTAB.out hG HB0_1.out) (Nat.lt_of_lt_of_le hG HB0_1.out.size)).mono ?_; rintro e w2 ⟨rfl, hb2⟩; refine Hid.out ?_)
        refine hid ?_
        clear k_S_0 k_S_1 k_S_2 k_S_3
        have hz2 := hb2.size
        have HB0_2 := hid (HB0_1.out.trans (hb2.mono HB0_1.out.size))
        have HVS_2 := hid ((hb2.block _ (by omega)).trans HVS_1.out)
        clear HB0_1 HVS_1
        clear hb2
        go_wp2
        go_ret
        exact ⟨by rw [HR.out]; (first | rfl | simp | (simp; omega) | (congr 2; simp; omega)), HB0_2.out⟩
      · obtain ⟨m2, rfl⟩ := Nat.exists_eq_succ_of_ne_zero hk2
        have g2 : ((m2 + 1 : Nat) : Int) > 0 := by omega
        have g2b : (((m2 + 1 : Nat) : Int) != 0) = true := by simp; omega
        by_cases hk3 : k3 = 0
        · subst hk3
          go_enter Tryz.func150, Tryz.ntmps150
          go_wp2_with (go_at_call 178; rw [← HW1.out]; refine (C1.out _).mono ?_; rintro e wq ⟨rfl, eq⟩; rw [eq]; clear eq wq; refine Hid.out ?_)
          refine hid ?_
          have k_S_0 := (cell_of_row _ _ 0 _ _ _ HVS_1.out).trans rfl
          have k_S_1 := (cell_of_row _ _ 1 _ _ _ HVS_1.out).trans rfl
          have k_S_2 := (cell_of_row _ _ 2 _ _ _ HVS_1.out).trans rfl
          have k_S_3 := (cell_of_row _ _ 3 _ _ _ HVS_1.out).trans rfl
          go_wp2_with (go_at_call 179; refine (C2.out _).mono ?_; rintro e wq ⟨rfl, eq⟩; rw [eq]; clear eq wq; refine Hid.out ?_)
          refine hid ?_
          go_wp2_with (go_at_call 40; refine (CA.out _ (tab_on HTAB.out hG HB0_1.out) (Nat.lt_of_lt_of_le hG HB0_1.out.size)).mono ?_; rintro e w2 ⟨rfl, hb2⟩; refine Hid.out ?_)
          refine hid ?_
          clear k_S_0 k_S_1 k_S_2 k_S_3
          have hz2 := hb2.size
          have HB0_2 := hid (HB0_1.out.trans (hb2.mono HB0_1.out.size))
          have HVS_2 := hid ((hb2.block _ (by omega)).trans HVS_1.out)
          clear HB0_1 HVS_1
          clear hb2
          have k_S_0 := (cell_of_row _ _ 0 _ _ _ HVS_2.out).trans rfl
          have k_S_1 := (cell_of_row _ _ 1 _ _ _ HVS_2.out).trans rfl
          have k_S_2 := (cell_of_row _ _ 2 _ _ _ HVS_2.out).trans rfl
          have k_S_3 := (cell_of_row _ _ 3 _ _ _ HVS_2.out).trans rfl
          go_wp2_with (go_at_call 40; refine (CB.out _ (tab_on HTAB.out hG HB0_2.out) (Nat.lt_of_lt_of_le hG HB0_2.out.size)).mono ?_; rintro e w3 ⟨rfl, hb3⟩; refine Hid.out ?_)
          refine hid ?_
          clear k_S_0 k_S_1 k_S_2 k_S_3
          have hz3 := hb3.size
          have HB0_3 := hid (HB0_2.out.trans (hb3.mono HB0_2.out.size))
          have HVS_3 := hid ((hb3.block _ (by omega)).trans HVS_2.out)
          clear HB0_2 HVS_2
          clear hb3
          go_wp2
          go_ret
          exact ⟨by rw [HR.out]; (first | rfl | simp | (simp; omega) | (congr 2; simp; omega)), HB0_3.out⟩
        · obtain ⟨m3, rfl⟩ := Nat.exists_eq_succ_of_ne_zero hk3
          have g3 : ((m3 + 1 : Nat) : Int) > 0 := by omega
          have g3b : (((m3 + 1 : Nat) : Int) != 0) = true := by simp; omega
          go_enter Tryz.func150, Tryz.ntmps150
          go_wp2_with (go_at_call 178; rw [← HW1.out]; refine (C1.out _).mono ?_; rintro e wq ⟨rfl, eq⟩; rw [eq]; clear eq wq; refine Hid.out ?_)
          refine hid ?_
          have k_S_0 := (cell_of_row _ _ 0 _ _ _ HVS_1.out).trans rfl
          have k_S_1 := (cell_of_row _ _ 1 _ _ _ HVS_1.out).trans rfl
          have k_S_2 := (cell_of_row _ _ 2 _ _ _ HVS_1.out).trans rfl
          have k_S_3 := (cell_of_row _ _ 3 _ _ _ HVS_1.out).trans rfl
          go_wp2_with (go_at_call 179; refine (C2.out _).mono ?_; rintro e wq ⟨rfl, eq⟩; rw [eq]; clear eq wq; refine Hid.out ?_)
          refine hid ?_
          go_wp2_with (go_at_call 40; refine (CA.out _ (tab_on HTAB.out hG HB0_1.out) (Nat.lt_of_lt_of_le hG HB0_1.out.size)).mono ?_; rintro e w2 ⟨rfl, hb2⟩; refine Hid.out ?_)
          refine hid ?_
          clear k_S_0 k_S_1 k_S_2 k_S_3
          have hz2 := hb2.size
          have HB0_2 := hid (HB0_1.out.trans (hb2.mono HB0_1.out.size))
          have HVS_2 := hid ((hb2.block _ (by omega)).trans HVS_1.out)
          clear HB0_1 HVS_1
          clear hb2
          have k_S_0 := (cell_of_row _ _ 0 _ _ _ HVS_2.out).trans rfl
          have k_S_1 := (cell_of_row _ _ 1 _ _ _ HVS_2.out).trans rfl
          have k_S_2 := (cell_of_row _ _ 2 _ _ _ HVS_2.out).trans rfl
          have k_S_3 := (cell_of_row _ _ 3 _ _ _ HVS_2.out).trans rfl
          go_wp2_with (go_at_call 40; refine (CB.out _ (tab_on HTAB.out hG HB0_2.out) (Nat.lt_of_lt_of_le hG HB0_2.out.size)).mono ?_; rintro e w3 ⟨rfl, hb3⟩; refine Hid.out ?_)
          refine hid ?_
          clear k_S_0 k_S_1 k_S_2 k_S_3
          have hz3 := hb3.size
          have HB0_3 := hid (HB0_2.out.trans (hb3.mono HB0_2.out.size))
          have HVS_3 := hid ((hb3.block _ (by omega)).trans HVS_2.out)
          clear HB0_2 HVS_2
          clear hb3
          go_wp2
          go_ret
          exact ⟨by rw [HR.out]; (first | rfl | simp | (simp; omega) | (congr 2; simp; omega)), HB0_3.out⟩
end Go.Proofs.YtnkaabgjfdbdoaaGreatDoor

namespace Go.Proofs.YtnkaabgjfdbdoaaGreatDoor
open Go.RowKit
open Go.Lib (hid)

set_option maxRecDepth 20000 in
set_option maxHeartbeats 4000000 in
theorem away_spec (x0 x1 : Int) (x2 x3 : ByteArray) (w : World) :
    Calls Tryz.prog 90 #[.agg #[.int .i64 x0, .int .i64 x1, .string x2, .string x3]] w fun e w' => e = .returned (.bool (awayB ⟨x0, x1, x2, x3⟩)) ∧ Below w.heap.size w w' := by
  have HR : Hid (awayB ⟨x0, x1, x2, x3⟩ = (decide (0 ≤ x0 ∧ x0 ≤ 7) && (decide (x0 = x0) && bareB ⟨x0, x1, x2, x3⟩))) := hid (by rw [decide_eq_true (rfl : x0 = x0), Bool.true_and]; rfl)
  have HE := fun W => seal_eql x0 x0 x1 x2 x3 W
  have C1 := hid (fun W => in_any x0 0 7 W)
  generalize awayB ⟨x0, x1, x2, x3⟩ = r at *
  generalize (decide (x0 = x0) && bareB ⟨x0, x1, x2, x3⟩) = rb at *
  have HB0_0 : Hid (Below w.heap.size w w) := hid (Below.refl _ _)
  have hz0 : w.heap.size ≤ w.heap.size := Nat.le_refl _
  obtain ⟨w1, hw1⟩ : ∃ W, W = w.alloc (.cells #[.int .i64 x0, .int .i64 x1, .string x2, .string x3] 43) := ⟨_, rfl⟩
  have hb1 : Below w.heap.size w w1 := by rw [hw1]; exact (Below.refl _ _).alloc (Nat.le_refl _) _
  have hz1 : w.heap.size < w1.heap.size := by rw [hw1]; simp
  have HVS_1 : Hid (w1.heap[w.heap.size]? = some (.cells #[.int .i64 x0, .int .i64 x1, .string x2, .string x3] 43)) := hid (by rw [hw1]; exact heap_alloc_new _ _)
  have HW1 := hid hw1
  have HB0_1 := hid (HB0_0.out.trans (hb1.mono HB0_0.out.size))
  clear hw1 hb1
  cases h1 : decide (0 ≤ x0 ∧ x0 ≤ 7) with
  | false =>
    rw [h1] at C1 HR
    clear h1
    go_enter Tryz.func90, Tryz.ntmps90
    go_wp2_with (go_at_call_of 77 (Value.int .i64 x0); rw [← HW1.out]; refine (C1.out _).mono ?_; rintro e wq ⟨rfl, eq⟩; rw [eq]; clear eq wq; refine Hid.out ?_)
    refine hid ?_
    go_wp2
    go_ret
    exact ⟨by rw [HR.out]; (first | rfl | simp | (simp; omega) | (congr 2; simp; omega)), HB0_1.out⟩
  | true =>
    rw [h1] at C1 HR
    clear h1
    go_enter Tryz.func90, Tryz.ntmps90
    go_wp2_with (go_at_call_of 77 (Value.int .i64 x0); rw [← HW1.out]; refine (C1.out _).mono ?_; rintro e wq ⟨rfl, eq⟩; rw [eq]; clear eq wq; refine Hid.out ?_)
    refine hid ?_
    have k_S_0 := (cell_of_row _ _ 0 _ _ _ HVS_1.out).trans rfl
    have k_S_1 := (cell_of_row _ _ 1 _ _ _ HVS_1.out).trans rfl
    have k_S_2 := (cell_of_row _ _ 2 _ _ _ HVS_1.out).trans rfl
    have k_S_3 := (cell_of_row _ _ 3 _ _ _ HVS_1.out).trans rfl
    go_wp2
    go_ret
    exact ⟨by rw [HR.out]; (first | rfl | simp | (simp; omega) | (congr 2; simp; omega)), HB0_1.out⟩

set_option maxRecDepth 20000 in
set_option maxHeartbeats 4000000 in
theorem takes_impl (x0 x1 : Int) (x2 x3 : ByteArray) (w : World) :
    Calls Tryz.prog 151 #[.agg #[.int .i64 x0, .int .i64 x1, .string x2, .string x3]] w fun e w' => e = .returned (.bool (awayB ⟨x0, x1, x2, x3⟩)) ∧ Below w.heap.size w w' := by
  have HR : Hid (awayB ⟨x0, x1, x2, x3⟩ = (decide (0 ≤ x0 ∧ x0 ≤ 7) && (decide (x0 = x0) && bareB ⟨x0, x1, x2, x3⟩))) := hid (by rw [decide_eq_true (rfl : x0 = x0), Bool.true_and]; rfl)
  have HE := fun W => seal_eql x0 x0 x1 x2 x3 W
  have C1 := hid (fun W => isSlot_calls x0 W)
  generalize awayB ⟨x0, x1, x2, x3⟩ = r at *
  generalize (decide (x0 = x0) && bareB ⟨x0, x1, x2, x3⟩) = rb at *
  have HB0_0 : Hid (Below w.heap.size w w) := hid (Below.refl _ _)
  have hz0 : w.heap.size ≤ w.heap.size := Nat.le_refl _
  obtain ⟨w1, hw1⟩ : ∃ W, W = w.alloc (.cells #[.int .i64 x0, .int .i64 x1, .string x2, .string x3] 43) := ⟨_, rfl⟩
  have hb1 : Below w.heap.size w w1 := by rw [hw1]; exact (Below.refl _ _).alloc (Nat.le_refl _) _
  have hz1 : w.heap.size < w1.heap.size := by rw [hw1]; simp
  have HVS_1 : Hid (w1.heap[w.heap.size]? = some (.cells #[.int .i64 x0, .int .i64 x1, .string x2, .string x3] 43)) := hid (by rw [hw1]; exact heap_alloc_new _ _)
  have HW1 := hid hw1
  have HB0_1 := hid (HB0_0.out.trans (hb1.mono HB0_0.out.size))
  clear hw1 hb1
  cases h1 : decide (0 ≤ x0 ∧ x0 ≤ 7) with
  | false =>
    rw [h1] at C1 HR
    clear h1
    go_enter Tryz.func151, Tryz.ntmps151
    go_wp2_with (go_at_call 178; rw [← HW1.out]; refine (C1.out _).mono ?_; rintro e wq ⟨rfl, eq⟩; rw [eq]; clear eq wq; refine Hid.out ?_)
    refine hid ?_
    go_wp2
    go_ret
    exact ⟨by rw [HR.out]; (first | rfl | simp | (simp; omega) | (congr 2; simp; omega)), HB0_1.out⟩
  | true =>
    rw [h1] at C1 HR
    clear h1
    go_enter Tryz.func151, Tryz.ntmps151
    go_wp2_with (go_at_call 178; rw [← HW1.out]; refine (C1.out _).mono ?_; rintro e wq ⟨rfl, eq⟩; rw [eq]; clear eq wq; refine Hid.out ?_)
    refine hid ?_
    have k_S_0 := (cell_of_row _ _ 0 _ _ _ HVS_1.out).trans rfl
    have k_S_1 := (cell_of_row _ _ 1 _ _ _ HVS_1.out).trans rfl
    have k_S_2 := (cell_of_row _ _ 2 _ _ _ HVS_1.out).trans rfl
    have k_S_3 := (cell_of_row _ _ 3 _ _ _ HVS_1.out).trans rfl
    go_wp2
    go_ret
    exact ⟨by rw [HR.out]; (first | rfl | simp | (simp; omega) | (congr 2; simp; omega)), HB0_1.out⟩

set_option maxRecDepth 20000 in
set_option maxHeartbeats 4000000 in
theorem change_impl (x0 x1 : Int) (x2 x3 : ByteArray) (w : World) (hT : Tab w) (hG : 0 < w.heap.size) :
    Calls Tryz.prog 101 #[.agg #[.int .i64 x0, .int .i64 x1, .string x2, .string x3]] w fun e w' => e = .returned (.bool (sealB ⟨x0, x1, x2, x3⟩ || awayB ⟨x0, x1, x2, x3⟩)) ∧ Below w.heap.size w w' := by
  have CA := hid (fun W => takes_impl x0 x1 x2 x3 W)
  have CB := hid (fun W hT hG => right_impl x0 x1 x2 x3 W hT hG)
  have HTAB := hid hT
  clear hT
  generalize awayB ⟨x0, x1, x2, x3⟩ = ra at *
  generalize sealB ⟨x0, x1, x2, x3⟩ = rs at *
  have HB0_0 : Hid (Below w.heap.size w w) := hid (Below.refl _ _)
  have hz0 : w.heap.size ≤ w.heap.size := Nat.le_refl _
  obtain ⟨w1, hw1⟩ : ∃ W, W = w.alloc (.cells #[.int .i64 x0, .int .i64 x1, .string x2, .string x3] 43) := ⟨_, rfl⟩
  have hb1 : Below w.heap.size w w1 := by rw [hw1]; exact (Below.refl _ _).alloc (Nat.le_refl _) _
  have hz1 : w.heap.size < w1.heap.size := by rw [hw1]; simp
  have HVS_1 : Hid (w1.heap[w.heap.size]? = some (.cells #[.int .i64 x0, .int .i64 x1, .string x2, .string x3] 43)) := hid (by rw [hw1]; exact heap_alloc_new _ _)
  have HW1 := hid hw1
  have HB0_1 := hid (HB0_0.out.trans (hb1.mono HB0_0.out.size))
  clear hw1 hb1
  cases ra with
  | true =>
    go_enter Tryz.func101, Tryz.ntmps101
    go_wp2_with (go_at_call 151; rw [← HW1.out]; refine (CA.out _).mono ?_; rintro e w2 ⟨rfl, hb2⟩; refine Hid.out ?_)
    refine hid ?_
    have hz2 := hb2.size
    have HB0_2 := hid (HB0_1.out.trans (hb2.mono HB0_1.out.size))
    have HVS_2 := hid ((hb2.block _ (by omega)).trans HVS_1.out)
    clear HB0_1 HVS_1
    clear hb2
    go_wp2
    go_ret
    exact ⟨by rw [Bool.or_true] <;> rfl, HB0_2.out⟩
  | false =>
    go_enter Tryz.func101, Tryz.ntmps101
    go_wp2_with (go_at_call 151; rw [← HW1.out]; refine (CA.out _).mono ?_; rintro e w2 ⟨rfl, hb2⟩; refine Hid.out ?_)
    refine hid ?_
    have hz2 := hb2.size
    have HB0_2 := hid (HB0_1.out.trans (hb2.mono HB0_1.out.size))
    have HVS_2 := hid ((hb2.block _ (by omega)).trans HVS_1.out)
    clear HB0_1 HVS_1
    clear hb2
    have k_S_0 := (cell_of_row _ _ 0 _ _ _ HVS_2.out).trans rfl
    have k_S_1 := (cell_of_row _ _ 1 _ _ _ HVS_2.out).trans rfl
    have k_S_2 := (cell_of_row _ _ 2 _ _ _ HVS_2.out).trans rfl
    have k_S_3 := (cell_of_row _ _ 3 _ _ _ HVS_2.out).trans rfl
    go_wp2_with (go_at_call 150; refine (CB.out _ (tab_on HTAB.out hG HB0_2.out) (Nat.lt_of_lt_of_le hG HB0_2.out.size)).mono ?_; rintro e w3 ⟨rfl, hb3⟩; refine Hid.out ?_)
    refine hid ?_
    clear k_S_0 k_S_1 k_S_2 k_S_3
    have hz3 := hb3.size
    have HB0_3 := hid (HB0_2.out.trans (hb3.mono HB0_2.out.size))
    have HVS_3 := hid ((hb3.block _ (by omega)).trans HVS_2.out)
    clear HB0_2 HVS_2
    clear hb3
    go_wp2
    go_ret
    exact ⟨by rw [Bool.or_false] <;> rfl, HB0_3.out⟩
end Go.Proofs.YtnkaabgjfdbdoaaGreatDoor

namespace Go.Proofs.YtnkaabgjfdbdoaaGreatDoor
open Go.RowKit
open Go.Lib (hid)

theorem take_dst {P : Program} {md : Region.Mode} {ops : Array Oper} {Q : Exit → Act → World → Prop} {S : World → Prop} {i : Nat} {oi : Oper} (d : Tmp) {v : Value} {fuel : Nat} {listed : Array Bool} {a : Act} {w : World} (hi : ops[i]? = some oi) (hd : oi.dst = some d)
    (hs : Region.noSelect ops = true) (hf : Region.free md ops listed i = true) (hr : (Region.ready md ops listed).contains i = true)
    (hQ : ∀ c a w, Q (.panic c) (a.put (some d) v) w → Q (.panic c) a w) (hy : YieldsIf P ops S oi v a) (hS : S w)
    (h : wpAnyH P md ops Q S fuel (listed.setIfInBounds i true) (a.put (some d) v) w) : wpAnyH P md ops Q S (fuel + 1) listed a w := by
  rw [← hd] at hQ h
  exact wpAnyH_take hi hs hf hr hQ hy hS h

set_option maxRecDepth 20000 in
set_option maxHeartbeats 4000000 in
theorem vault_spec (es : List SealD) (hn : es.length ≤ 1048576) (hs : ∀ e ∈ es, e.x2.size ≤ 1048576 ∧ e.x3.size ≤ 1048576) (st y0 y1 : Int) (y2 y3 : ByteArray) (hy2 : y2.size ≤ 1048576) (hy3 : y3.size ≤ 1048576) (a : Value) (w : World) (ha : FRow encSeal 4 w a es) :
    Calls Tryz.prog 33 #[.agg #[a, .int .i64 st, .int .i64 y0, .int .i64 y1, .string y2, .string y3]] w fun e w' => e = .returned (.bool (vaultB es st ⟨y0, y1, y2, y3⟩)) ∧ Below w.heap.size w w' := by
  have HA := hid ha
  have HS := hid hs
  have CP := hid (fun W => seal_spec y0 y1 y2 y3 hy2 hy3 W)
  have CW := hid (fun W => away_spec y0 y1 y2 y3 W)
  have HE := fun W => seal_eql y0 0 y1 y2 y3 W
  have HQ : Hid (quietB ⟨y0, y1, y2, y3⟩ = (decide (y0 = 0) && bareB ⟨y0, y1, y2, y3⟩)) := hid rfl
  obtain ⟨p, c, rfl, _, hrest⟩ := ha
  clear hrest hs hy2 hy3
  obtain ⟨W0, hW0⟩ : ∃ W0, W0 = w.alloc (.cells #[.slice p es.length c, .int .i64 st, .int .i64 y0, .int .i64 y1, .string y2, .string y3] 45) := ⟨_, rfl⟩
  have HB0 : Hid (Below w.heap.size w W0) := hid (by rw [hW0]; exact (Below.refl _ _).alloc (Nat.le_refl _) _)
  have HV0 : Hid (W0.heap[w.heap.size]? = some (.cells #[.slice p es.length c, .int .i64 st, .int .i64 y0, .int .i64 y1, .string y2, .string y3] 45)) := hid (by rw [hW0]; exact heap_alloc_new _ _)
  have HPB : Hid (vaultB es st ⟨y0, y1, y2, y3⟩ = (sealsB es es.length && pendB st ⟨y0, y1, y2, y3⟩)) := hid rfl
  have HPD : Hid (pendB st ⟨y0, y1, y2, y3⟩ = if st = 0 then quietB ⟨y0, y1, y2, y3⟩ else if st = 1 ∨ st = 2 then (sealB ⟨y0, y1, y2, y3⟩ || awayB ⟨y0, y1, y2, y3⟩) else false) := hid rfl
  generalize vaultB es st ⟨y0, y1, y2, y3⟩ = r at *
  generalize pendB st ⟨y0, y1, y2, y3⟩ = rp at *
  generalize quietB ⟨y0, y1, y2, y3⟩ = rq at *
  generalize sealB ⟨y0, y1, y2, y3⟩ = rs at *
  generalize awayB ⟨y0, y1, y2, y3⟩ = ra at *
  generalize (decide (y0 = 0) && bareB ⟨y0, y1, y2, y3⟩) = rb at *
  go_enter Tryz.func33, Tryz.ntmps33
  go_wp2_with (fail)
  rw [← hW0]
  clear hW0
  go_wp2
  go_loopw [3] (fun iv wr => ∃ i : Nat, i ≤ es.length ∧ iv = .int .i64 i ∧ Below w.heap.size w wr ∧ wr.heap[w.heap.size]? = some (.cells #[.slice p es.length c, .int .i64 st, .int .i64 y0, .int .i64 y1, .string y2, .string y3] 45) ∧ sealsB es i = true) (fun iv _ => es.length - (RowKit.intOf iv).toNat)
  case atStart => exact ⟨0, Nat.zero_le _, rfl, HB0.out, HV0.out, rfl⟩
  case round =>
    obtain ⟨i, hi, rfl, hbel, hbox, hall⟩ := hrel
    have HB := hid hbel
    have HX := hid hbox
    have HALL := hid hall
    obtain ⟨k0, k1, k2, k3, k4, k5⟩ := six_cells hbox
    have hzr : w.heap.size < wr.heap.size := (Array.getElem?_eq_some_iff.1 hbox).1
    by_cases hlt : i < es.length
    · have hne : es ≠ [] := fun h => by rw [h] at hlt; cases hlt
      obtain ⟨p', c', hv, _, hp⟩ := HA.out
      obtain ⟨rfl, rfl⟩ : p = p' ∧ c = c' := by injection hv with h1 h2 h3; exact ⟨h1, by omega⟩
      obtain ⟨g, o, rfl, hg, hc⟩ := hp hne
      clear hv hp
      have HC := hid hc
      have b1 : (0 : Int) ≤ (i : Int) := by omega
      have b2 : (i : Int) < (es.length : Int) := by omega
      have hgw : g < wr.heap.size := Nat.lt_of_lt_of_le hg hbel.size
      have m0 : wr.cell? ⟨g, o + i * 4, none⟩ = some (.int .i64 es[i].x0) := (hbel.cell (p := ⟨g, o + i * 4, none⟩) hg).trans (hc i hlt 0 (by decide))
      have m1 : wr.cell? ⟨g, o + i * 4 + 1, none⟩ = some (.int .i64 es[i].x1) := (hbel.cell (p := ⟨g, o + i * 4 + 1, none⟩) hg).trans (hc i hlt 1 (by decide))
      have m2 : wr.cell? ⟨g, o + i * 4 + 2, none⟩ = some (.string es[i].x2) := (hbel.cell (p := ⟨g, o + i * 4 + 2, none⟩) hg).trans (hc i hlt 2 (by decide))
      have m3 : wr.cell? ⟨g, o + i * 4 + 3, none⟩ = some (.string es[i].x3) := (hbel.cell (p := ⟨g, o + i * 4 + 3, none⟩) hg).trans (hc i hlt 3 (by decide))
      have HGD : Hid (sealGood es i = (sealB es[i] && decide (0 < i → (es.getD (i - 1) zSeal).x0 < es[i].x0))) := hid (by unfold sealGood; rw [seal_at hlt])
      have hei2 := HS.out es[i] (List.getElem_mem hlt)
      have HPREV := hid (fun (j : Nat) (hj : j < es.length) => (hbel.cell (p := ⟨g, o + j * 4, none⟩) hg).trans (hc j hj 0 (by decide)))
      clear hc hbel hbox hall HE
      generalize es[i] = ei at *
      obtain ⟨x0, x1, x2, x3⟩ := ei
      dsimp only at *
      have CR := hid (fun W => seal_spec x0 x1 x2 x3 hei2.1 hei2.2 W)
      clear hei2
      cases hrf : sealB ⟨x0, x1, x2, x3⟩ with
      | false =>
        have HGB : Hid (sealGood es i = false) := hid (by rw [HGD.out, hrf]; rfl)
        rw [hrf] at CR
        clear hrf HGD HPREV
        have j0 : ∀ W : World, Below wr.heap.size wr W → W.cell? ⟨w.heap.size, 0, none⟩ = some (.slice (some ⟨g, o, none⟩) es.length c) := fun W hW => (hW.cell (p := ⟨w.heap.size, 0, none⟩) hzr).trans k0
        have l0 : ∀ W : World, Below wr.heap.size wr W → W.cell? ⟨g, o + i * 4, none⟩ = some (.int .i64 x0) := fun W hW => (hW.cell (p := ⟨g, o + i * 4, none⟩) hgw).trans m0
        have l1 : ∀ W : World, Below wr.heap.size wr W → W.cell? ⟨g, o + i * 4 + 1, none⟩ = some (.int .i64 x1) := fun W hW => (hW.cell (p := ⟨g, o + i * 4 + 1, none⟩) hgw).trans m1
        have l2 : ∀ W : World, Below wr.heap.size wr W → W.cell? ⟨g, o + i * 4 + 2, none⟩ = some (.string x2) := fun W hW => (hW.cell (p := ⟨g, o + i * 4 + 2, none⟩) hgw).trans m2
        have l3 : ∀ W : World, Below wr.heap.size wr W → W.cell? ⟨g, o + i * 4 + 3, none⟩ = some (.string x3) := fun W hW => (hW.cell (p := ⟨g, o + i * 4 + 3, none⟩) hgw).trans m3
        clear k1 k2 k3 k4 k5 m0 m1 m2 m3
        go_wp2
        refine wp_region_held_drew (S := fun w' => Below wr.heap.size wr w') (by kernel_rfl) (Below.drew (Below.refl _ _)) (fun hHeld => ?_)
        refine take_dst (i := 0) 11 (v := ?_) rfl rfl (by kernel_rfl) (by kernel_rfl) (by kernel_rfl) (fun _ _ _ h => h) (Or.inl ⟨by rfl, ?_⟩) (by assumption) ?_
        case refine_2 => ((intro w hSw); (try dsimp only at hSw); go_simp; (try with_reducible rfl))
        try simp only [Act.put, List.setIfInBounds_toArray, List.set_cons_zero, List.set_cons_succ]
        refine take_dst (i := 1) 12 (v := ?_) rfl rfl (by kernel_rfl) (by kernel_rfl) (by kernel_rfl) (fun _ _ _ h => h) (Or.inl ⟨by rfl, ?_⟩) (by assumption) ?_
        case refine_2 => ((intro w hSw); (try dsimp only at hSw); go_simp; (try with_reducible rfl))
        try simp only [Act.put, List.setIfInBounds_toArray, List.set_cons_zero, List.set_cons_succ]
        refine take_dst (i := 2) 13 (v := ?_) rfl rfl (by kernel_rfl) (by kernel_rfl) (by kernel_rfl) (fun _ _ _ h => h) (Or.inl ⟨by rfl, ?_⟩) (by assumption) ?_
        case refine_2 => ((intro w hSw); (try dsimp only at hSw); go_simp; (try with_reducible rfl))
        try simp only [Act.put, List.setIfInBounds_toArray, List.set_cons_zero, List.set_cons_succ]
        refine take_dst (i := 3) 14 (v := ?_) rfl rfl (by kernel_rfl) (by kernel_rfl) (by kernel_rfl) (fun _ _ _ h => h) (Or.inl ⟨by rfl, ?_⟩) (by assumption) ?_
        case refine_2 => ((intro w hSw); (try dsimp only at hSw); go_simp; (try with_reducible rfl))
        try simp only [Act.put, List.setIfInBounds_toArray, List.set_cons_zero, List.set_cons_succ]
        refine take_dst (i := 4) 15 (v := ?_) rfl rfl (by kernel_rfl) (by kernel_rfl) (by kernel_rfl) (fun _ _ _ h => h) (Or.inl ⟨by rfl, ?_⟩) (by assumption) ?_
        case refine_2 => ((intro w hSw); (try dsimp only at hSw); go_simp; (try with_reducible rfl))
        try simp only [Act.put, List.setIfInBounds_toArray, List.set_cons_zero, List.set_cons_succ]
        refine wpAnyH_ready (rs := [5]) (by kernel_rfl) (by simp) ?_
        refine AllReadyH.cons rfl (fun K hK => ?_) AllReadyH.nil
        go_simp
        go_at_call 89
        refine (CR.out _).mono ?_
        rintro e x1 ⟨rfl, hy1⟩
        go_wp2_with fail
        refine hK.out _ _ (below_hop hHeld (by simp) hy1) (fun hHeld => ?_)
        clear hK K
        try simp only [Act.put, List.setIfInBounds_toArray, List.set_cons_zero, List.set_cons_succ]
        refine take_dst (i := 6) 17 (v := ?_) rfl rfl (by kernel_rfl) (by kernel_rfl) (by kernel_rfl) (fun _ _ _ h => h) (Or.inl ⟨by rfl, ?_⟩) (by assumption) ?_
        case refine_2 => ((intro w hSw); (try dsimp only at hSw); go_simp; (try with_reducible rfl))
        try simp only [Act.put, List.setIfInBounds_toArray, List.set_cons_zero, List.set_cons_succ]
        refine take_dst (i := 7) 18 (v := ?_) rfl rfl (by kernel_rfl) (by kernel_rfl) (by kernel_rfl) (fun _ _ _ h => h) (Or.inl ⟨by rfl, ?_⟩) (by assumption) ?_
        case refine_2 => ((intro w hSw); (try dsimp only at hSw); go_simp; (try with_reducible rfl))
        try simp only [Act.put, List.setIfInBounds_toArray, List.set_cons_zero, List.set_cons_succ]
        refine take_dst (i := 8) 19 (v := undef) rfl rfl (by kernel_rfl) (by kernel_rfl) (by kernel_rfl) (fun _ _ _ h => h) (Or.inr ⟨by rfl, rfl⟩) (by assumption) ?_
        try simp only [Act.put, List.setIfInBounds_toArray, List.set_cons_zero, List.set_cons_succ]
        refine take_dst (i := 9) 20 (v := undef) rfl rfl (by kernel_rfl) (by kernel_rfl) (by kernel_rfl) (fun _ _ _ h => h) (Or.inr ⟨by rfl, rfl⟩) (by assumption) ?_
        try simp only [Act.put, List.setIfInBounds_toArray, List.set_cons_zero, List.set_cons_succ]
        refine take_dst (i := 10) 21 (v := undef) rfl rfl (by kernel_rfl) (by kernel_rfl) (by kernel_rfl) (fun _ _ _ h => h) (Or.inr ⟨by rfl, rfl⟩) (by assumption) ?_
        try simp only [Act.put, List.setIfInBounds_toArray, List.set_cons_zero, List.set_cons_succ]
        refine take_dst (i := 11) 22 (v := undef) rfl rfl (by kernel_rfl) (by kernel_rfl) (by kernel_rfl) (fun _ _ _ h => h) (Or.inr ⟨by rfl, rfl⟩) (by assumption) ?_
        try simp only [Act.put, List.setIfInBounds_toArray, List.set_cons_zero, List.set_cons_succ]
        refine take_dst (i := 12) 23 (v := undef) rfl rfl (by kernel_rfl) (by kernel_rfl) (by kernel_rfl) (fun _ _ _ h => h) (Or.inr ⟨by rfl, rfl⟩) (by assumption) ?_
        try simp only [Act.put, List.setIfInBounds_toArray, List.set_cons_zero, List.set_cons_succ]
        refine take_dst (i := 13) 24 (v := undef) rfl rfl (by kernel_rfl) (by kernel_rfl) (by kernel_rfl) (fun _ _ _ h => h) (Or.inr ⟨by rfl, rfl⟩) (by assumption) ?_
        try simp only [Act.put, List.setIfInBounds_toArray, List.set_cons_zero, List.set_cons_succ]
        refine take_dst (i := 14) 25 (v := undef) rfl rfl (by kernel_rfl) (by kernel_rfl) (by kernel_rfl) (fun _ _ _ h => h) (Or.inr ⟨by rfl, rfl⟩) (by assumption) ?_
        try simp only [Act.put, List.setIfInBounds_toArray, List.set_cons_zero, List.set_cons_succ]
        refine take_dst (i := 15) 26 (v := undef) rfl rfl (by kernel_rfl) (by kernel_rfl) (by kernel_rfl) (fun _ _ _ h => h) (Or.inr ⟨by rfl, rfl⟩) (by assumption) ?_
        try simp only [Act.put, List.setIfInBounds_toArray, List.set_cons_zero, List.set_cons_succ]
        refine take_dst (i := 16) 27 (v := undef) rfl rfl (by kernel_rfl) (by kernel_rfl) (by kernel_rfl) (fun _ _ _ h => h) (Or.inr ⟨by rfl, rfl⟩) (by assumption) ?_
        try simp only [Act.put, List.setIfInBounds_toArray, List.set_cons_zero, List.set_cons_succ]
        refine take_dst (i := 17) 28 (v := undef) rfl rfl (by kernel_rfl) (by kernel_rfl) (by kernel_rfl) (fun _ _ _ h => h) (Or.inr ⟨by rfl, rfl⟩) (by assumption) ?_
        try simp only [Act.put, List.setIfInBounds_toArray, List.set_cons_zero, List.set_cons_succ]
        refine take_dst (i := 18) 29 (v := undef) rfl rfl (by kernel_rfl) (by kernel_rfl) (by kernel_rfl) (fun _ _ _ h => h) (Or.inr ⟨by rfl, rfl⟩) (by assumption) ?_
        try simp only [Act.put, List.setIfInBounds_toArray, List.set_cons_zero, List.set_cons_succ]
        refine take_dst (i := 19) 30 (v := undef) rfl rfl (by kernel_rfl) (by kernel_rfl) (by kernel_rfl) (fun _ _ _ h => h) (Or.inr ⟨by rfl, rfl⟩) (by assumption) ?_
        try simp only [Act.put, List.setIfInBounds_toArray, List.set_cons_zero, List.set_cons_succ]
        refine take_dst (i := 20) 31 (v := undef) rfl rfl (by kernel_rfl) (by kernel_rfl) (by kernel_rfl) (fun _ _ _ h => h) (Or.inr ⟨by rfl, rfl⟩) (by assumption) ?_
        try simp only [Act.put, List.setIfInBounds_toArray, List.set_cons_zero, List.set_cons_succ]
        refine take_dst (i := 21) 32 (v := undef) rfl rfl (by kernel_rfl) (by kernel_rfl) (by kernel_rfl) (fun _ _ _ h => h) (Or.inr ⟨by rfl, rfl⟩) (by assumption) ?_
        try simp only [Act.put, List.setIfInBounds_toArray, List.set_cons_zero, List.set_cons_succ]
        refine take_dst (i := 22) 33 (v := undef) rfl rfl (by kernel_rfl) (by kernel_rfl) (by kernel_rfl) (fun _ _ _ h => h) (Or.inr ⟨by rfl, rfl⟩) (by assumption) ?_
        try simp only [Act.put, List.setIfInBounds_toArray, List.set_cons_zero, List.set_cons_succ]
        refine take_dst (i := 23) 34 (v := undef) rfl rfl (by kernel_rfl) (by kernel_rfl) (by kernel_rfl) (fun _ _ _ h => h) (Or.inr ⟨by rfl, rfl⟩) (by assumption) ?_
        try simp only [Act.put, List.setIfInBounds_toArray, List.set_cons_zero, List.set_cons_succ]
        refine take_dst (i := 24) 35 (v := undef) rfl rfl (by kernel_rfl) (by kernel_rfl) (by kernel_rfl) (fun _ _ _ h => h) (Or.inr ⟨by rfl, rfl⟩) (by assumption) ?_
        try simp only [Act.put, List.setIfInBounds_toArray, List.set_cons_zero, List.set_cons_succ]
        refine take_dst (i := 25) 36 (v := undef) rfl rfl (by kernel_rfl) (by kernel_rfl) (by kernel_rfl) (fun _ _ _ h => h) (Or.inr ⟨by rfl, rfl⟩) (by assumption) ?_
        try simp only [Act.put, List.setIfInBounds_toArray, List.set_cons_zero, List.set_cons_succ]
        refine take_dst (i := 26) 37 (v := ?_) rfl rfl (by kernel_rfl) (by kernel_rfl) (by kernel_rfl) (fun _ _ _ h => h) (Or.inl ⟨by rfl, ?_⟩) (by assumption) ?_
        case refine_2 => ((intro w hSw); (try dsimp only at hSw); go_simp; (try with_reducible rfl))
        try simp only [Act.put, List.setIfInBounds_toArray, List.set_cons_zero, List.set_cons_succ]
        refine wpAnyH_done (by kernel_rfl) ?_ _
        have hS := hHeld
        have HB5 := hid (HB.out.trans (hS.mono HB.out.size))
        have HX5 := hid ((hS.block w.heap.size hzr).trans HX.out)
        clear hS
        go_wp2
        go_ret
        exact ⟨by rw [HPB.out, show sealsB es es.length = false from seals_no HGB.out hlt]; rfl, HB5.out⟩
      | true =>
        rw [hrf] at CR HGD
        rw [Bool.true_and] at HGD
        clear hrf
        by_cases hi0 : i = 0
        · have hz1 : ¬ (0 : Int) < (i : Int) := by omega
          have HGB : Hid (sealGood es i = true) := hid (by rw [HGD.out]; exact decide_eq_true (fun h => absurd hi0 (by omega)))
          clear HGD hi0 HPREV
          have j0 : ∀ W : World, Below wr.heap.size wr W → W.cell? ⟨w.heap.size, 0, none⟩ = some (.slice (some ⟨g, o, none⟩) es.length c) := fun W hW => (hW.cell (p := ⟨w.heap.size, 0, none⟩) hzr).trans k0
          have l0 : ∀ W : World, Below wr.heap.size wr W → W.cell? ⟨g, o + i * 4, none⟩ = some (.int .i64 x0) := fun W hW => (hW.cell (p := ⟨g, o + i * 4, none⟩) hgw).trans m0
          have l1 : ∀ W : World, Below wr.heap.size wr W → W.cell? ⟨g, o + i * 4 + 1, none⟩ = some (.int .i64 x1) := fun W hW => (hW.cell (p := ⟨g, o + i * 4 + 1, none⟩) hgw).trans m1
          have l2 : ∀ W : World, Below wr.heap.size wr W → W.cell? ⟨g, o + i * 4 + 2, none⟩ = some (.string x2) := fun W hW => (hW.cell (p := ⟨g, o + i * 4 + 2, none⟩) hgw).trans m2
          have l3 : ∀ W : World, Below wr.heap.size wr W → W.cell? ⟨g, o + i * 4 + 3, none⟩ = some (.string x3) := fun W hW => (hW.cell (p := ⟨g, o + i * 4 + 3, none⟩) hgw).trans m3
          clear k1 k2 k3 k4 k5 m0 m1 m2 m3
          go_wp2
          refine wp_region_held_drew (S := fun w' => Below wr.heap.size wr w') (by kernel_rfl) (Below.drew (Below.refl _ _)) (fun hHeld => ?_)
          refine take_dst (i := 0) 11 (v := ?_) rfl rfl (by kernel_rfl) (by kernel_rfl) (by kernel_rfl) (fun _ _ _ h => h) (Or.inl ⟨by rfl, ?_⟩) (by assumption) ?_
          case refine_2 => ((intro w hSw); (try dsimp only at hSw); go_simp; (try with_reducible rfl))
          try simp only [Act.put, List.setIfInBounds_toArray, List.set_cons_zero, List.set_cons_succ]
          refine take_dst (i := 1) 12 (v := ?_) rfl rfl (by kernel_rfl) (by kernel_rfl) (by kernel_rfl) (fun _ _ _ h => h) (Or.inl ⟨by rfl, ?_⟩) (by assumption) ?_
          case refine_2 => ((intro w hSw); (try dsimp only at hSw); go_simp; (try with_reducible rfl))
          try simp only [Act.put, List.setIfInBounds_toArray, List.set_cons_zero, List.set_cons_succ]
          refine take_dst (i := 2) 13 (v := ?_) rfl rfl (by kernel_rfl) (by kernel_rfl) (by kernel_rfl) (fun _ _ _ h => h) (Or.inl ⟨by rfl, ?_⟩) (by assumption) ?_
          case refine_2 => ((intro w hSw); (try dsimp only at hSw); go_simp; (try with_reducible rfl))
          try simp only [Act.put, List.setIfInBounds_toArray, List.set_cons_zero, List.set_cons_succ]
          refine take_dst (i := 3) 14 (v := ?_) rfl rfl (by kernel_rfl) (by kernel_rfl) (by kernel_rfl) (fun _ _ _ h => h) (Or.inl ⟨by rfl, ?_⟩) (by assumption) ?_
          case refine_2 => ((intro w hSw); (try dsimp only at hSw); go_simp; (try with_reducible rfl))
          try simp only [Act.put, List.setIfInBounds_toArray, List.set_cons_zero, List.set_cons_succ]
          refine take_dst (i := 4) 15 (v := ?_) rfl rfl (by kernel_rfl) (by kernel_rfl) (by kernel_rfl) (fun _ _ _ h => h) (Or.inl ⟨by rfl, ?_⟩) (by assumption) ?_
          case refine_2 => ((intro w hSw); (try dsimp only at hSw); go_simp; (try with_reducible rfl))
          try simp only [Act.put, List.setIfInBounds_toArray, List.set_cons_zero, List.set_cons_succ]
          refine wpAnyH_ready (rs := [5]) (by kernel_rfl) (by simp) ?_
          refine AllReadyH.cons rfl (fun K hK => ?_) AllReadyH.nil
          go_simp
          go_at_call 89
          refine (CR.out _).mono ?_
          rintro e x1 ⟨rfl, hy1⟩
          go_wp2_with fail
          refine hK.out _ _ (below_hop hHeld (by simp) hy1) (fun hHeld => ?_)
          clear hK K
          try simp only [Act.put, List.setIfInBounds_toArray, List.set_cons_zero, List.set_cons_succ]
          refine take_dst (i := 6) 17 (v := ?_) rfl rfl (by kernel_rfl) (by kernel_rfl) (by kernel_rfl) (fun _ _ _ h => h) (Or.inl ⟨by rfl, ?_⟩) (by assumption) ?_
          case refine_2 => ((intro w hSw); (try dsimp only at hSw); go_simp; (try with_reducible rfl))
          try simp only [Act.put, List.setIfInBounds_toArray, List.set_cons_zero, List.set_cons_succ]
          refine take_dst (i := 7) 18 (v := ?_) rfl rfl (by kernel_rfl) (by kernel_rfl) (by kernel_rfl) (fun _ _ _ h => h) (Or.inl ⟨by rfl, ?_⟩) (by assumption) ?_
          case refine_2 => ((intro w hSw); (try dsimp only at hSw); go_simp; (try with_reducible rfl))
          try simp only [Act.put, List.setIfInBounds_toArray, List.set_cons_zero, List.set_cons_succ]
          refine take_dst (i := 8) 19 (v := ?_) rfl rfl (by kernel_rfl) (by kernel_rfl) (by kernel_rfl) (fun _ _ _ h => h) (Or.inl ⟨by rfl, ?_⟩) (by assumption) ?_
          case refine_2 => ((intro w hSw); (try dsimp only at hSw); go_simp; (try with_reducible rfl))
          try simp only [Act.put, List.setIfInBounds_toArray, List.set_cons_zero, List.set_cons_succ]
          refine take_dst (i := 9) 20 (v := .bool false) rfl rfl (by kernel_rfl) (by kernel_rfl) (by kernel_rfl) (fun _ _ _ h => h) (Or.inl ⟨by rfl, ?_⟩) (by assumption) ?_
          case refine_1 => ((intro w hSw); (try dsimp only at hSw); go_simp; (try first | omega | (simp; omega) | simp [hz1]))
          try simp only [Act.put, List.setIfInBounds_toArray, List.set_cons_zero, List.set_cons_succ]
          refine take_dst (i := 10) 21 (v := ?_) rfl rfl (by kernel_rfl) (by kernel_rfl) (by kernel_rfl) (fun _ _ _ h => h) (Or.inl ⟨by rfl, ?_⟩) (by assumption) ?_
          case refine_2 => ((intro w hSw); (try dsimp only at hSw); go_simp; (try with_reducible rfl))
          try simp only [Act.put, List.setIfInBounds_toArray, List.set_cons_zero, List.set_cons_succ]
          refine take_dst (i := 11) 22 (v := undef) rfl rfl (by kernel_rfl) (by kernel_rfl) (by kernel_rfl) (fun _ _ _ h => h) (Or.inr ⟨by rfl, rfl⟩) (by assumption) ?_
          try simp only [Act.put, List.setIfInBounds_toArray, List.set_cons_zero, List.set_cons_succ]
          refine take_dst (i := 12) 23 (v := undef) rfl rfl (by kernel_rfl) (by kernel_rfl) (by kernel_rfl) (fun _ _ _ h => h) (Or.inr ⟨by rfl, rfl⟩) (by assumption) ?_
          try simp only [Act.put, List.setIfInBounds_toArray, List.set_cons_zero, List.set_cons_succ]
          refine take_dst (i := 13) 24 (v := undef) rfl rfl (by kernel_rfl) (by kernel_rfl) (by kernel_rfl) (fun _ _ _ h => h) (Or.inr ⟨by rfl, rfl⟩) (by assumption) ?_
          try simp only [Act.put, List.setIfInBounds_toArray, List.set_cons_zero, List.set_cons_succ]
          refine take_dst (i := 14) 25 (v := undef) rfl rfl (by kernel_rfl) (by kernel_rfl) (by kernel_rfl) (fun _ _ _ h => h) (Or.inr ⟨by rfl, rfl⟩) (by assumption) ?_
          try simp only [Act.put, List.setIfInBounds_toArray, List.set_cons_zero, List.set_cons_succ]
          refine take_dst (i := 15) 26 (v := undef) rfl rfl (by kernel_rfl) (by kernel_rfl) (by kernel_rfl) (fun _ _ _ h => h) (Or.inr ⟨by rfl, rfl⟩) (by assumption) ?_
          try simp only [Act.put, List.setIfInBounds_toArray, List.set_cons_zero, List.set_cons_succ]
          refine take_dst (i := 16) 27 (v := undef) rfl rfl (by kernel_rfl) (by kernel_rfl) (by kernel_rfl) (fun _ _ _ h => h) (Or.inr ⟨by rfl, rfl⟩) (by assumption) ?_
          try simp only [Act.put, List.setIfInBounds_toArray, List.set_cons_zero, List.set_cons_succ]
          refine take_dst (i := 17) 28 (v := undef) rfl rfl (by kernel_rfl) (by kernel_rfl) (by kernel_rfl) (fun _ _ _ h => h) (Or.inr ⟨by rfl, rfl⟩) (by assumption) ?_
          try simp only [Act.put, List.setIfInBounds_toArray, List.set_cons_zero, List.set_cons_succ]
          refine take_dst (i := 18) 29 (v := undef) rfl rfl (by kernel_rfl) (by kernel_rfl) (by kernel_rfl) (fun _ _ _ h => h) (Or.inr ⟨by rfl, rfl⟩) (by assumption) ?_
          try simp only [Act.put, List.setIfInBounds_toArray, List.set_cons_zero, List.set_cons_succ]
          refine take_dst (i := 19) 30 (v := undef) rfl rfl (by kernel_rfl) (by kernel_rfl) (by kernel_rfl) (fun _ _ _ h => h) (Or.inr ⟨by rfl, rfl⟩) (by assumption) ?_
          try simp only [Act.put, List.setIfInBounds_toArray, List.set_cons_zero, List.set_cons_succ]
          refine take_dst (i := 20) 31 (v := undef) rfl rfl (by kernel_rfl) (by kernel_rfl) (by kernel_rfl) (fun _ _ _ h => h) (Or.inr ⟨by rfl, rfl⟩) (by assumption) ?_
          try simp only [Act.put, List.setIfInBounds_toArray, List.set_cons_zero, List.set_cons_succ]
          refine take_dst (i := 21) 32 (v := undef) rfl rfl (by kernel_rfl) (by kernel_rfl) (by kernel_rfl) (fun _ _ _ h => h) (Or.inr ⟨by rfl, rfl⟩) (by assumption) ?_
          try simp only [Act.put, List.setIfInBounds_toArray, List.set_cons_zero, List.set_cons_succ]
          refine take_dst (i := 22) 33 (v := undef) rfl rfl (by kernel_rfl) (by kernel_rfl) (by kernel_rfl) (fun _ _ _ h => h) (Or.inr ⟨by rfl, rfl⟩) (by assumption) ?_
          try simp only [Act.put, List.setIfInBounds_toArray, List.set_cons_zero, List.set_cons_succ]
          refine take_dst (i := 23) 34 (v := undef) rfl rfl (by kernel_rfl) (by kernel_rfl) (by kernel_rfl) (fun _ _ _ h => h) (Or.inr ⟨by rfl, rfl⟩) (by assumption) ?_
          try simp only [Act.put, List.setIfInBounds_toArray, List.set_cons_zero, List.set_cons_succ]
          refine take_dst (i := 24) 35 (v := undef) rfl rfl (by kernel_rfl) (by kernel_rfl) (by kernel_rfl) (fun _ _ _ h => h) (Or.inr ⟨by rfl, rfl⟩) (by assumption) ?_
          try simp only [Act.put, List.setIfInBounds_toArray, List.set_cons_zero, List.set_cons_succ]
          refine take_dst (i := 25) 36 (v := ?_) rfl rfl (by kernel_rfl) (by kernel_rfl) (by kernel_rfl) (fun _ _ _ h => h) (Or.inl ⟨by rfl, ?_⟩) (by assumption) ?_
          case refine_2 => ((intro w hSw); (try dsimp only at hSw); go_simp; (try with_reducible rfl))
          try simp only [Act.put, List.setIfInBounds_toArray, List.set_cons_zero, List.set_cons_succ]
          refine take_dst (i := 26) 37 (v := ?_) rfl rfl (by kernel_rfl) (by kernel_rfl) (by kernel_rfl) (fun _ _ _ h => h) (Or.inl ⟨by rfl, ?_⟩) (by assumption) ?_
          case refine_2 => ((intro w hSw); (try dsimp only at hSw); go_simp; (try with_reducible rfl))
          try simp only [Act.put, List.setIfInBounds_toArray, List.set_cons_zero, List.set_cons_succ]
          refine wpAnyH_done (by kernel_rfl) ?_ _
          have hS := hHeld
          have HB5 := hid (HB.out.trans (hS.mono HB.out.size))
          have HX5 := hid ((hS.block w.heap.size hzr).trans HX.out)
          clear hS
          go_wp2
          go_roundw
          case rel => exact ⟨i + 1, by omega, by go_num, HB5.out, HX5.out, by rw [seals_succ, HALL.out, HGB.out]; rfl⟩
          case measure => simp [RowKit.intOf]; omega
        · obtain ⟨j, rfl⟩ : ∃ j, i = j + 1 := ⟨i - 1, by omega⟩
          clear hi0
          have hjl : j < es.length := by omega
          have hp0 := HPREV.out j hjl
          have HGD2 : Hid (sealGood es (j + 1) = decide (0 < j + 1 → es[j].x0 < x0)) := hid (by rw [HGD.out, Nat.add_sub_cancel, seal_at hjl])
          have b3 : (0 : Int) ≤ (j : Int) := by omega
          have b4 : (j : Int) < (es.length : Int) := by omega
          have b5 : (0 : Int) ≤ (j : Int) + 1 := by omega
          have b6 : (j : Int) + 1 < (es.length : Int) := by omega
          have b7 : (0 : Int) < (j : Int) + 1 := by omega
          have b8 : IntKind.i64.wrap ((j : Int) + 1 - 1) = (j : Int) := by rw [IntKind.wrap_i64]; omega
          have b9 : IntKind.i64.wrap (j : Int) = (j : Int) := by rw [IntKind.wrap_i64]; omega
          have q0 : ∀ W : World, Below wr.heap.size wr W → W.cell? ⟨g, o + j * 4, none⟩ = some (.int .i64 es[j].x0) := fun W hW => (hW.cell (p := ⟨g, o + j * 4, none⟩) hgw).trans hp0
          clear HGD HPREV hp0
          generalize es[j].x0 = z at *
          by_cases hyx : z < x0
          · have hle : decide (x0 ≤ z) = false := decide_eq_false (by omega)
            have hle2 : ¬ x0 ≤ z := by omega
            have HGB : Hid (sealGood es (j + 1) = true) := hid (by rw [HGD2.out]; exact decide_eq_true (fun _ => hyx))
            clear HGD2 hyx
            have j0 : ∀ W : World, Below wr.heap.size wr W → W.cell? ⟨w.heap.size, 0, none⟩ = some (.slice (some ⟨g, o, none⟩) es.length c) := fun W hW => (hW.cell (p := ⟨w.heap.size, 0, none⟩) hzr).trans k0
            have l0 : ∀ W : World, Below wr.heap.size wr W → W.cell? ⟨g, o + (j + 1) * 4, none⟩ = some (.int .i64 x0) := fun W hW => (hW.cell (p := ⟨g, o + (j + 1) * 4, none⟩) hgw).trans m0
            have l1 : ∀ W : World, Below wr.heap.size wr W → W.cell? ⟨g, o + (j + 1) * 4 + 1, none⟩ = some (.int .i64 x1) := fun W hW => (hW.cell (p := ⟨g, o + (j + 1) * 4 + 1, none⟩) hgw).trans m1
            have l2 : ∀ W : World, Below wr.heap.size wr W → W.cell? ⟨g, o + (j + 1) * 4 + 2, none⟩ = some (.string x2) := fun W hW => (hW.cell (p := ⟨g, o + (j + 1) * 4 + 2, none⟩) hgw).trans m2
            have l3 : ∀ W : World, Below wr.heap.size wr W → W.cell? ⟨g, o + (j + 1) * 4 + 3, none⟩ = some (.string x3) := fun W hW => (hW.cell (p := ⟨g, o + (j + 1) * 4 + 3, none⟩) hgw).trans m3
            clear k1 k2 k3 k4 k5 m0 m1 m2 m3
            go_wp2
            first | (go_region_held3 (fun w' => Below wr.heap.size wr w') (first | with_reducible assumption | exact Below.drew (Below.refl _ _) | exact below_hop (by assumption) (by simp) (by assumption)) (first | (go_at_call 89; refine (CR.out _).mono ?_; rintro e x1w ⟨rfl, hy1⟩) | (fail "no arm"))) | (fail "held")
            rename_i hS
            have HB5 := hid (HB.out.trans (hS.mono HB.out.size))
            have HX5 := hid ((hS.block w.heap.size hzr).trans HX.out)
            clear hS
            go_wp2
            go_roundw
            case rel => exact ⟨j + 1 + 1, by omega, by go_num, HB5.out, HX5.out, by rw [seals_succ, HALL.out, HGB.out]; rfl⟩
            case measure => simp [RowKit.intOf]; omega
          · have hle : x0 ≤ z := by omega
            have HGB : Hid (sealGood es (j + 1) = false) := hid (by rw [HGD2.out]; exact decide_eq_false (fun h => hyx (h (Nat.succ_pos j))))
            clear HGD2 hyx
            have j0 : ∀ W : World, Below wr.heap.size wr W → W.cell? ⟨w.heap.size, 0, none⟩ = some (.slice (some ⟨g, o, none⟩) es.length c) := fun W hW => (hW.cell (p := ⟨w.heap.size, 0, none⟩) hzr).trans k0
            have l0 : ∀ W : World, Below wr.heap.size wr W → W.cell? ⟨g, o + (j + 1) * 4, none⟩ = some (.int .i64 x0) := fun W hW => (hW.cell (p := ⟨g, o + (j + 1) * 4, none⟩) hgw).trans m0
            have l1 : ∀ W : World, Below wr.heap.size wr W → W.cell? ⟨g, o + (j + 1) * 4 + 1, none⟩ = some (.int .i64 x1) := fun W hW => (hW.cell (p := ⟨g, o + (j + 1) * 4 + 1, none⟩) hgw).trans m1
            have l2 : ∀ W : World, Below wr.heap.size wr W → W.cell? ⟨g, o + (j + 1) * 4 + 2, none⟩ = some (.string x2) := fun W hW => (hW.cell (p := ⟨g, o + (j + 1) * 4 + 2, none⟩) hgw).trans m2
            have l3 : ∀ W : World, Below wr.heap.size wr W → W.cell? ⟨g, o + (j + 1) * 4 + 3, none⟩ = some (.string x3) := fun W hW => (hW.cell (p := ⟨g, o + (j + 1) * 4 + 3, none⟩) hgw).trans m3
            clear k1 k2 k3 k4 k5 m0 m1 m2 m3
            go_wp2
            first | (go_region_held3 (fun w' => Below wr.heap.size wr w') (first | with_reducible assumption | exact Below.drew (Below.refl _ _) | exact below_hop (by assumption) (by simp) (by assumption)) (first | (go_at_call 89; refine (CR.out _).mono ?_; rintro e x1w ⟨rfl, hy1⟩) | (fail "no arm"))) | (fail "held")
            rename_i hS
            have HB5 := hid (HB.out.trans (hS.mono HB.out.size))
            have HX5 := hid ((hS.block w.heap.size hzr).trans HX.out)
            clear hS
            go_wp2
            go_ret
            exact ⟨by rw [HPB.out, show sealsB es es.length = false from seals_no HGB.out hlt]; rfl, HB5.out⟩
    · have hie : i = es.length := by omega
      subst hie
      rw [HALL.out, Bool.true_and] at HPB
      clear HALL hbel hbox hall HS HA
      by_cases h0 : st = 0
      · subst h0
        rw [if_pos rfl] at HPD
        go_wp2
        go_ret
        exact ⟨by rw [HPB.out, HPD.out, HQ.out] <;> rfl, HB.out⟩
      · rw [if_neg h0] at HPD
        have e0 : (st == 0) = false := by rw [beq_eq_false_iff_ne]; exact h0
        have hb6 := hzr
        by_cases h12 : st = 1 ∨ st = 2
        · rw [if_pos h12] at HPD
          clear HE
          cases rs with
          | true =>
            rw [Bool.true_or] at HPD
            rcases h12 with rfl | rfl
            · go_wp2_with (go_at_call 89; refine (CP.out _).mono ?_; rintro e w7 ⟨rfl, hb7⟩; refine Hid.out ?_)
              refine hid ?_
              have HB7 := hid (HB.out.trans (hb7.mono HB.out.size))
              clear hb7 k0 k1 k2 k3 k4 k5
              go_wp2
              go_ret
              exact ⟨by rw [HPB.out, HPD.out] <;> rfl, HB7.out⟩
            · go_wp2_with (go_at_call 89; refine (CP.out _).mono ?_; rintro e w7 ⟨rfl, hb7⟩; refine Hid.out ?_)
              refine hid ?_
              have HB7 := hid (HB.out.trans (hb7.mono HB.out.size))
              clear hb7 k0 k1 k2 k3 k4 k5
              go_wp2
              go_ret
              exact ⟨by rw [HPB.out, HPD.out] <;> rfl, HB7.out⟩
          | false =>
            rw [Bool.false_or] at HPD
            rcases h12 with rfl | rfl
            · go_wp2_with (go_at_call 89; refine (CP.out _).mono ?_; rintro e w7 ⟨rfl, hb7⟩; refine Hid.out ?_)
              refine hid ?_
              have HB7 := hid (HB.out.trans (hb7.mono HB.out.size))
              have HX7 := hid ((hb7.block _ hzr).trans HX.out)
              clear hb7 k0 k1 k2 k3 k4 k5
              obtain ⟨k0, k1, k2, k3, k4, k5⟩ := six_cells HX7.out
              go_wp2_with (go_at_call 90; refine (CW.out _).mono ?_; rintro e w8 ⟨rfl, hb8⟩; refine Hid.out ?_)
              refine hid ?_
              have HB8 := hid (HB7.out.trans (hb8.mono HB7.out.size))
              clear hb8 k0 k1 k2 k3 k4 k5
              go_wp2
              go_ret
              exact ⟨by rw [HPB.out, HPD.out] <;> rfl, HB8.out⟩
            · go_wp2_with (go_at_call 89; refine (CP.out _).mono ?_; rintro e w7 ⟨rfl, hb7⟩; refine Hid.out ?_)
              refine hid ?_
              have HB7 := hid (HB.out.trans (hb7.mono HB.out.size))
              have HX7 := hid ((hb7.block _ hzr).trans HX.out)
              clear hb7 k0 k1 k2 k3 k4 k5
              obtain ⟨k0, k1, k2, k3, k4, k5⟩ := six_cells HX7.out
              go_wp2_with (go_at_call 90; refine (CW.out _).mono ?_; rintro e w8 ⟨rfl, hb8⟩; refine Hid.out ?_)
              refine hid ?_
              have HB8 := hid (HB7.out.trans (hb8.mono HB7.out.size))
              clear hb8 k0 k1 k2 k3 k4 k5
              go_wp2
              go_ret
              exact ⟨by rw [HPB.out, HPD.out] <;> rfl, HB8.out⟩
        · rw [if_neg h12] at HPD
          have e1 : (st == 1) = false := by rw [beq_eq_false_iff_ne]; exact fun h => h12 (Or.inl h)
          have e2 : (st == 2) = false := by rw [beq_eq_false_iff_ne]; exact fun h => h12 (Or.inr h)
          go_wp2
          go_ret
          exact ⟨by rw [HPB.out, HPD.out] <;> rfl, HB.out⟩
end Go.Proofs.YtnkaabgjfdbdoaaGreatDoor

namespace Go.Proofs.YtnkaabgjfdbdoaaGreatDoor
open Go.RowKit
open Go.Lib (hid)

set_option maxRecDepth 20000 in
set_option maxHeartbeats 4000000 in
theorem areSeals_calls (es : List SealD) (hn : es.length ≤ 1048576) (a : Value) (w : World) (ha : FRow encSeal 4 w a es) (hT : Tab w) (hG : 0 < w.heap.size) :
    Calls Tryz.prog 100 #[a] w fun e w' => e = .returned (.bool (sealsB es es.length)) ∧ Below w.heap.size w w' := by
  have HA := hid ha
  have HT := hid (fun W (hb : Below w.heap.size w W) => tab_on hT hG hb)
  have HGG := hid (fun W (hb : Below w.heap.size w W) => Nat.lt_of_lt_of_le hG hb.size)
  obtain ⟨p, c, rfl, _, hrest⟩ := ha
  clear hrest hT hG
  by_cases h8 : es.length ≤ 8
  · have d8 : ¬ (es.length : Int) > 8 := by omega
    go_enter Tryz.func100, Tryz.ntmps100
    go_wp2
    go_loopw [3, 11] (fun lv iv wr => ∃ i : Nat, i ≤ es.length ∧ iv = .int .i64 i ∧ lv = .int .i64 (lastS es i) ∧ Below w.heap.size w wr ∧ sealsB es i = true) (fun _ iv _ => es.length - (RowKit.intOf iv).toNat)
    case atStart => exact ⟨0, Nat.zero_le _, rfl, by rw [lastS_zero], Below.refl _ _, rfl⟩
    case round =>
      obtain ⟨i, hi, rfl, rfl, hbel, hall⟩ := hrel
      have HB := hid hbel
      have HALL := hid hall
      by_cases hlt : i < es.length
      · have hne : es ≠ [] := fun h => by rw [h] at hlt; cases hlt
        obtain ⟨p', c', hv, _, hp⟩ := HA.out
        obtain ⟨rfl, rfl⟩ : p = p' ∧ c = c' := by injection hv with h1 h2 h3; exact ⟨h1, by omega⟩
        obtain ⟨g, o, rfl, hg, hc⟩ := hp hne
        clear hv hp
        have b1 : (0 : Int) ≤ (i : Int) := by omega
        have b2 : (i : Int) < (es.length : Int) := by omega
        have m0 : wr.cell? ⟨g, o + i * 4, none⟩ = some (.int .i64 es[i].x0) := (hbel.cell (p := ⟨g, o + i * 4, none⟩) hg).trans (hc i hlt 0 (by decide))
        have m1 : wr.cell? ⟨g, o + i * 4 + 1, none⟩ = some (.int .i64 es[i].x1) := (hbel.cell (p := ⟨g, o + i * 4 + 1, none⟩) hg).trans (hc i hlt 1 (by decide))
        have m2 : wr.cell? ⟨g, o + i * 4 + 2, none⟩ = some (.string es[i].x2) := (hbel.cell (p := ⟨g, o + i * 4 + 2, none⟩) hg).trans (hc i hlt 2 (by decide))
        have m3 : wr.cell? ⟨g, o + i * 4 + 3, none⟩ = some (.string es[i].x3) := (hbel.cell (p := ⟨g, o + i * 4 + 3, none⟩) hg).trans (hc i hlt 3 (by decide))
        have HGD := hid (good_last hlt)
        have HLS := hid (lastS_succ hlt)
        clear hc hbel hall
        generalize lastS es i = ls at *
        generalize es[i] = ei at *
        obtain ⟨x0, x1, x2, x3⟩ := ei
        dsimp only at *
        have CR := hid (fun W hT hG => right_impl x0 x1 x2 x3 W hT hG)
        by_cases hls : ls < x0
        · have e1 : decide (x0 ≤ ls) = false := decide_eq_false (by omega)
          have e2 : ¬ x0 ≤ ls := by omega
          rw [decide_eq_true hls, Bool.true_and] at HGD
          generalize sealB ⟨x0, x1, x2, x3⟩ = rs at *
          clear hls
          have hb2 : Below wr.heap.size wr (wr.alloc (.cells #[.int .i64 x0, .int .i64 x1, .string x2, .string x3] 43)) := (Below.refl _ _).alloc (Nat.le_refl _) _
          have HB2 := hid (HB.out.trans (hb2.mono HB.out.size))
          have HV2 : Hid ((wr.alloc (.cells #[.int .i64 x0, .int .i64 x1, .string x2, .string x3] 43)).heap[wr.heap.size]? = some (.cells #[.int .i64 x0, .int .i64 x1, .string x2, .string x3] 43)) := hid (heap_alloc_new _ _)
          clear hb2
          go_wp2_with (go_at_call 150; refine (CR.out _ (HT.out _ HB2.out) (HGG.out _ HB2.out)).mono ?_; rintro e w3 ⟨rfl, hb3⟩; refine Hid.out ?_)
          refine hid ?_
          have HB3 := hid (HB2.out.trans (hb3.mono HB2.out.size))
          have HV3 := hid ((hb3.block _ (by simp)).trans HV2.out)
          clear hb3 m0 m1 m2 m3
          have k0 := (cell_of_row _ _ 0 _ _ _ HV3.out).trans rfl
          cases rs with
          | true =>
            go_wp2
            go_roundw
            case rel => exact ⟨i + 1, by omega, by go_num, by rw [HLS.out], HB3.out, by rw [seals_succ, HALL.out, HGD.out]; rfl⟩
            case measure => simp [RowKit.intOf]; omega
          | false =>
            have HN := hid (seals_no HGD.out hlt)
            go_wp2
            go_ret
            exact ⟨by rw [HN.out] <;> rfl, HB3.out⟩
        · have e1 : x0 ≤ ls := by omega
          rw [decide_eq_false hls, Bool.false_and] at HGD
          have HN := hid (seals_no HGD.out hlt)
          clear hls
          go_wp2
          go_ret
          exact ⟨by rw [HN.out] <;> rfl, HB.out.alloc HB.out.size _⟩
      · have hie : i = es.length := by omega
        subst hie
        go_wp2
        go_ret
        exact ⟨by rw [HALL.out] <;> rfl, HB.out⟩
  · have d8 : (es.length : Int) > 8 := by omega
    have HN : Hid (sealsB es es.length = false) := hid (by cases h : sealsB es es.length with | false => rfl | true => exact absurd (seals_few h) h8)
    clear h8
    go_enter Tryz.func100, Tryz.ntmps100
    go_wp2
    go_ret
    exact ⟨by rw [HN.out] <;> rfl, Below.refl _ _⟩

set_option maxRecDepth 20000 in
set_option maxHeartbeats 4000000 in
theorem vault_impl (es : List SealD) (hn : es.length ≤ 1048576) (st y0 y1 : Int) (y2 y3 : ByteArray) (a : Value) (w : World) (ha : FRow encSeal 4 w a es) (hT : Tab w) (hG : 0 < w.heap.size) :
    Calls Tryz.prog 42 #[.agg #[a, .int .i64 st, .int .i64 y0, .int .i64 y1, .string y2, .string y3]] w fun e w' => e = .returned (.bool (vaultB es st ⟨y0, y1, y2, y3⟩)) ∧ Below w.heap.size w w' := by
  have HFa := hid ha
  have HTAB := hid hT
  have CA := hid (fun W ha hT hG => areSeals_calls es hn a W ha hT hG)
  have CC := hid (fun W hT hG => change_impl y0 y1 y2 y3 W hT hG)
  have HE := hid (fun W => seal_eql y0 0 y1 y2 y3 W)
  have HPB : Hid (vaultB es st ⟨y0, y1, y2, y3⟩ = (sealsB es es.length && pendB st ⟨y0, y1, y2, y3⟩)) := hid rfl
  have HPD : Hid (pendB st ⟨y0, y1, y2, y3⟩ = if st = 0 then (decide (y0 = 0) && bareB ⟨y0, y1, y2, y3⟩) else if st = 1 ∨ st = 2 then (sealB ⟨y0, y1, y2, y3⟩ || awayB ⟨y0, y1, y2, y3⟩) else false) := hid rfl
  obtain ⟨p, c, rfl, _, hrest⟩ := ha
  clear hrest hT
  generalize vaultB es st ⟨y0, y1, y2, y3⟩ = r at *
  generalize pendB st ⟨y0, y1, y2, y3⟩ = rp at *
  generalize sealsB es es.length = rs at *
  generalize (sealB ⟨y0, y1, y2, y3⟩ || awayB ⟨y0, y1, y2, y3⟩) = rc at *
  generalize (decide (y0 = 0) && bareB ⟨y0, y1, y2, y3⟩) = rq at *
  have HB0_0 : Hid (Below w.heap.size w w) := hid (Below.refl _ _)
  have hz0 : w.heap.size ≤ w.heap.size := Nat.le_refl _
  obtain ⟨w1, hw1⟩ : ∃ W, W = w.alloc (.cells #[.slice p es.length c, .int .i64 st, .int .i64 y0, .int .i64 y1, .string y2, .string y3] 45) := ⟨_, rfl⟩
  have hb1 : Below w.heap.size w w1 := by rw [hw1]; exact (Below.refl _ _).alloc (Nat.le_refl _) _
  have hz1 : w.heap.size < w1.heap.size := by rw [hw1]; simp
  have HVV_1 : Hid (w1.heap[w.heap.size]? = some (.cells #[.slice p es.length c, .int .i64 st, .int .i64 y0, .int .i64 y1, .string y2, .string y3] 45)) := hid (by rw [hw1]; exact heap_alloc_new _ _)
  have HW1 := hid hw1
  have HB0_1 := hid (HB0_0.out.trans (hb1.mono HB0_0.out.size))
  clear hw1 hb1
  cases rs with
  | false =>
    rw [Bool.false_and] at HPB
    go_enter Tryz.func42, Tryz.ntmps42
    go_wp2_with (go_at_call 100; rw [← HW1.out]; refine (CA.out _ (HFa.out.on HB0_1.out) (tab_on HTAB.out hG HB0_1.out) (Nat.lt_of_lt_of_le hG HB0_1.out.size)).mono ?_; rintro e w2 ⟨rfl, hb2⟩; refine Hid.out ?_)
    refine hid ?_
    have hz2 := hb2.size
    have HB0_2 := hid (HB0_1.out.trans (hb2.mono HB0_1.out.size))
    have HVV_2 := hid ((hb2.block _ (by omega)).trans HVV_1.out)
    clear HB0_1 HVV_1
    clear hb2
    go_wp2
    go_ret
    exact ⟨by rw [HPB.out] <;> rfl, HB0_2.out⟩
  | true =>
    rw [Bool.true_and] at HPB
    by_cases h0 : st = 0
    · subst h0
      rw [if_pos rfl] at HPD
      go_enter Tryz.func42, Tryz.ntmps42
      go_wp2_with (go_at_call 100; rw [← HW1.out]; refine (CA.out _ (HFa.out.on HB0_1.out) (tab_on HTAB.out hG HB0_1.out) (Nat.lt_of_lt_of_le hG HB0_1.out.size)).mono ?_; rintro e w2 ⟨rfl, hb2⟩; refine Hid.out ?_)
      refine hid ?_
      have hz2 := hb2.size
      have HB0_2 := hid (HB0_1.out.trans (hb2.mono HB0_1.out.size))
      have HVV_2 := hid ((hb2.block _ (by omega)).trans HVV_1.out)
      clear HB0_1 HVV_1
      clear hb2
      have k_V_0 := (cell_of_row _ _ 0 _ _ _ HVV_2.out).trans rfl
      have k_V_1 := (cell_of_row _ _ 1 _ _ _ HVV_2.out).trans rfl
      have k_V_2 := (cell_of_row _ _ 2 _ _ _ HVV_2.out).trans rfl
      have k_V_3 := (cell_of_row _ _ 3 _ _ _ HVV_2.out).trans rfl
      have k_V_4 := (cell_of_row _ _ 4 _ _ _ HVV_2.out).trans rfl
      have k_V_5 := (cell_of_row _ _ 5 _ _ _ HVV_2.out).trans rfl
      have he := HE.out
      go_wp2
      go_ret
      exact ⟨by rw [HPB.out, HPD.out] <;> rfl, HB0_2.out⟩
    · rw [if_neg h0] at HPD
      have e0 : (st == 0) = false := by rw [beq_eq_false_iff_ne]; exact h0
      by_cases h12 : st = 1 ∨ st = 2
      · rw [if_pos h12] at HPD
        clear HE
        rcases h12 with rfl | rfl
        · skip
          go_enter Tryz.func42, Tryz.ntmps42
          go_wp2_with (go_at_call 100; rw [← HW1.out]; refine (CA.out _ (HFa.out.on HB0_1.out) (tab_on HTAB.out hG HB0_1.out) (Nat.lt_of_lt_of_le hG HB0_1.out.size)).mono ?_; rintro e w2 ⟨rfl, hb2⟩; refine Hid.out ?_)
          refine hid ?_
          have hz2 := hb2.size
          have HB0_2 := hid (HB0_1.out.trans (hb2.mono HB0_1.out.size))
          have HVV_2 := hid ((hb2.block _ (by omega)).trans HVV_1.out)
          clear HB0_1 HVV_1
          clear hb2
          have k_V_0 := (cell_of_row _ _ 0 _ _ _ HVV_2.out).trans rfl
          have k_V_1 := (cell_of_row _ _ 1 _ _ _ HVV_2.out).trans rfl
          have k_V_2 := (cell_of_row _ _ 2 _ _ _ HVV_2.out).trans rfl
          have k_V_3 := (cell_of_row _ _ 3 _ _ _ HVV_2.out).trans rfl
          have k_V_4 := (cell_of_row _ _ 4 _ _ _ HVV_2.out).trans rfl
          have k_V_5 := (cell_of_row _ _ 5 _ _ _ HVV_2.out).trans rfl
          go_wp2_with (go_at_call 101; refine (CC.out _ (tab_on HTAB.out hG HB0_2.out) (Nat.lt_of_lt_of_le hG HB0_2.out.size)).mono ?_; rintro e w3 ⟨rfl, hb3⟩; refine Hid.out ?_)
          refine hid ?_
          clear k_V_0 k_V_1 k_V_2 k_V_3 k_V_4 k_V_5
          have hz3 := hb3.size
          have HB0_3 := hid (HB0_2.out.trans (hb3.mono HB0_2.out.size))
          have HVV_3 := hid ((hb3.block _ (by omega)).trans HVV_2.out)
          clear HB0_2 HVV_2
          clear hb3
          go_wp2
          go_ret
          exact ⟨by rw [HPB.out, HPD.out] <;> rfl, HB0_3.out⟩
        · skip
          go_enter Tryz.func42, Tryz.ntmps42
          go_wp2_with (go_at_call 100; rw [← HW1.out]; refine (CA.out _ (HFa.out.on HB0_1.out) (tab_on HTAB.out hG HB0_1.out) (Nat.lt_of_lt_of_le hG HB0_1.out.size)).mono ?_; rintro e w2 ⟨rfl, hb2⟩; refine Hid.out ?_)
          refine hid ?_
          have hz2 := hb2.size
          have HB0_2 := hid (HB0_1.out.trans (hb2.mono HB0_1.out.size))
          have HVV_2 := hid ((hb2.block _ (by omega)).trans HVV_1.out)
          clear HB0_1 HVV_1
          clear hb2
          have k_V_0 := (cell_of_row _ _ 0 _ _ _ HVV_2.out).trans rfl
          have k_V_1 := (cell_of_row _ _ 1 _ _ _ HVV_2.out).trans rfl
          have k_V_2 := (cell_of_row _ _ 2 _ _ _ HVV_2.out).trans rfl
          have k_V_3 := (cell_of_row _ _ 3 _ _ _ HVV_2.out).trans rfl
          have k_V_4 := (cell_of_row _ _ 4 _ _ _ HVV_2.out).trans rfl
          have k_V_5 := (cell_of_row _ _ 5 _ _ _ HVV_2.out).trans rfl
          go_wp2_with (go_at_call 101; refine (CC.out _ (tab_on HTAB.out hG HB0_2.out) (Nat.lt_of_lt_of_le hG HB0_2.out.size)).mono ?_; rintro e w3 ⟨rfl, hb3⟩; refine Hid.out ?_)
          refine hid ?_
          clear k_V_0 k_V_1 k_V_2 k_V_3 k_V_4 k_V_5
          have hz3 := hb3.size
          have HB0_3 := hid (HB0_2.out.trans (hb3.mono HB0_2.out.size))
          have HVV_3 := hid ((hb3.block _ (by omega)).trans HVV_2.out)
          clear HB0_2 HVV_2
          clear hb3
          go_wp2
          go_ret
          exact ⟨by rw [HPB.out, HPD.out] <;> rfl, HB0_3.out⟩
      · rw [if_neg h12] at HPD
        have e1 : (st == 1) = false := by rw [beq_eq_false_iff_ne]; exact fun h => h12 (Or.inl h)
        have e2 : (st == 2) = false := by rw [beq_eq_false_iff_ne]; exact fun h => h12 (Or.inr h)
        go_enter Tryz.func42, Tryz.ntmps42
        go_wp2_with (go_at_call 100; rw [← HW1.out]; refine (CA.out _ (HFa.out.on HB0_1.out) (tab_on HTAB.out hG HB0_1.out) (Nat.lt_of_lt_of_le hG HB0_1.out.size)).mono ?_; rintro e w2 ⟨rfl, hb2⟩; refine Hid.out ?_)
        refine hid ?_
        have hz2 := hb2.size
        have HB0_2 := hid (HB0_1.out.trans (hb2.mono HB0_1.out.size))
        have HVV_2 := hid ((hb2.block _ (by omega)).trans HVV_1.out)
        clear HB0_1 HVV_1
        clear hb2
        have k_V_0 := (cell_of_row _ _ 0 _ _ _ HVV_2.out).trans rfl
        have k_V_1 := (cell_of_row _ _ 1 _ _ _ HVV_2.out).trans rfl
        have k_V_2 := (cell_of_row _ _ 2 _ _ _ HVV_2.out).trans rfl
        have k_V_3 := (cell_of_row _ _ 3 _ _ _ HVV_2.out).trans rfl
        have k_V_4 := (cell_of_row _ _ 4 _ _ _ HVV_2.out).trans rfl
        have k_V_5 := (cell_of_row _ _ 5 _ _ _ HVV_2.out).trans rfl
        go_wp2
        go_ret
        exact ⟨by rw [HPB.out, HPD.out] <;> rfl, HB0_2.out⟩
end Go.Proofs.YtnkaabgjfdbdoaaGreatDoor
