/- What a right Vault is, plainly. -/
import Derived.Test.YtponjghppnpnhaaDoorRowSeal
import Derived.Test.YtponjghppnpnhaaDoorFaceKind
namespace Go.Proofs.YtponjghppnpnhaaDoor
open Go.RowKit
open Go.Lib (hid)

def sealB (e : SealD) : Bool := decide (0 ≤ e.x0 ∧ e.x0 ≤ 7) && (decide (1 ≤ e.x1 ∧ e.x1 ≤ 255) && (decide ((nodeOf e.x2).1 ≠ 0) && decide ((nodeOf e.x3).1 ≠ 0)))
def bareB (e : SealD) : Bool := decide (e.x1 = 0) && (decide (e.x2.size = 0) && decide (e.x3.size = 0))
def awayB (e : SealD) : Bool := decide (0 ≤ e.x0 ∧ e.x0 ≤ 7) && bareB e
def quietB (e : SealD) : Bool := decide (e.x0 = 0) && bareB e

def sealGood (es : List SealD) (i : Nat) : Bool := sealB (es.getD i zSeal) && decide (0 < i → (es.getD (i - 1) zSeal).x0 < (es.getD i zSeal).x0)
def sealsB (es : List SealD) (n : Nat) : Bool := (List.range n).all (sealGood es)
def pendB (st : Int) (q : SealD) : Bool := if st = 0 then quietB q else if st = 1 ∨ st = 2 then (sealB q || awayB q) else false

/-- Is it a right Vault. -/
def vaultB (es : List SealD) (st : Int) (q : SealD) : Bool := sealsB es es.length && pendB st q

theorem seals_succ (es : List SealD) (n : Nat) : sealsB es (n + 1) = (sealsB es n && sealGood es n) := by
  unfold sealsB
  rw [List.range_succ, List.all_append]
  simp

theorem seals_no {es : List SealD} {n m : Nat} (h : sealGood es n = false) (hm : n < m) : sealsB es m = false := by
  rw [Bool.eq_false_iff]
  intro ht
  unfold sealsB at ht
  rw [List.all_eq_true] at ht
  have := ht n (List.mem_range.2 hm)
  rw [h] at this
  cases this

theorem seal_at {es : List SealD} {i : Nat} (h : i < es.length) : es.getD i zSeal = es[i] := by simp [List.getD, h]

theorem sealB_slot {e : SealD} (h : sealB e = true) : 0 ≤ e.x0 ∧ e.x0 ≤ 7 := by
  unfold sealB at h
  rw [Bool.and_eq_true] at h
  exact of_decide_eq_true h.1

theorem seals_slot {es : List SealD} {n : Nat} (h : sealsB es (n + 1) = true) : (n : Int) ≤ (es.getD n zSeal).x0 := by
  induction n with
  | zero =>
    rw [seals_succ, Bool.and_eq_true] at h
    have h2 := h.2
    unfold sealGood at h2
    rw [Bool.and_eq_true] at h2
    exact (sealB_slot h2.1).1
  | succ n ih =>
    rw [seals_succ, Bool.and_eq_true] at h
    have h1 := ih h.1
    have h2 := h.2
    unfold sealGood at h2
    rw [Bool.and_eq_true] at h2
    have h3 := of_decide_eq_true h2.2 (Nat.succ_pos n)
    rw [Nat.add_sub_cancel] at h3
    omega

/-- Rising slots of 0 to 7 are eight at most. -/
theorem seals_few {es : List SealD} {n : Nat} (h : sealsB es n = true) : n ≤ 8 := by
  cases n with
  | zero => omega
  | succ n =>
    have h1 := seals_slot h
    rw [seals_succ, Bool.and_eq_true] at h
    have h2 := h.2
    unfold sealGood at h2
    rw [Bool.and_eq_true] at h2
    have := (sealB_slot h2.1).2
    omega

/-- The slot ahead of a place. -/
def lastS (es : List SealD) (i : Nat) : Int := if i = 0 then -1 else (es.getD (i - 1) zSeal).x0
theorem lastS_zero (es : List SealD) : lastS es 0 = -1 := rfl
theorem lastS_succ {es : List SealD} {i : Nat} (h : i < es.length) : lastS es (i + 1) = es[i].x0 := by
  unfold lastS
  rw [if_neg (Nat.succ_ne_zero i), Nat.add_sub_cancel, seal_at h]

theorem good_last {es : List SealD} {i : Nat} (h : i < es.length) : sealGood es i = (decide (lastS es i < es[i].x0) && sealB es[i]) := by
  unfold sealGood
  rw [seal_at h, Bool.and_comm]
  cases i with
  | zero =>
    rw [lastS_zero]
    cases hb : sealB (es[0]'h) with
    | false => simp
    | true =>
      have := (sealB_slot hb).1
      rw [decide_eq_true (show (-1 : Int) < (es[0]'h).x0 by omega)]
      simp
  | succ j =>
    rw [lastS_succ (by omega), Nat.add_sub_cancel, seal_at (by omega)]
    congr 1
    rw [decide_eq_decide]
    simp

theorem size_zero (x : ByteArray) : (x.toList == (⟨#[]⟩ : ByteArray).toList) = decide (x.size = 0) := by
  rw [Bool.eq_iff_iff, beq_iff_eq, decide_eq_true_iff, Lib.toList_data, Lib.toList_data]
  constructor
  · intro h
    have h1 : x.data.toList.length = x.size := by simp
    rw [h] at h1
    simpa using h1.symm
  · intro h
    have h1 : x.data.toList.length = x.size := by simp
    rw [h] at h1
    exact List.eq_nil_of_length_eq_zero h1

theorem seal_eql (x0 y0 x1 : Int) (x2 x3 : ByteArray) (w : World) :
    (binOp .eql 68 (.agg #[.int .i64 x0, .int .i64 x1, .string x2, .string x3]) (.agg #[.int .i64 y0, .int .i64 0, .string ⟨#[]⟩, .string ⟨#[]⟩])).run Tryd.prog w = .ok (.bool (decide (x0 = y0) && bareB ⟨x0, x1, x2, x3⟩)) w := by
  unfold bareB
  dsimp only
  rw [← size_zero, ← size_zero]
  have e : (⟨#[]⟩ : ByteArray).toList = [] := by rw [Lib.toList_data]
  rw [e]
  by_cases h0 : x0 = y0
  · by_cases h1 : x1 = 0
    · by_cases a2 : x2.toList = []
      · by_cases a3 : x3.toList = []
        · simp [go_sem, h0, h1, a2, a3]
        · simp [go_sem, h0, h1, a2, a3]
      · simp [go_sem, h0, h1, a2]
    · simp [go_sem, h0, h1]
  · simp [go_sem, h0]
end Go.Proofs.YtponjghppnpnhaaDoor
