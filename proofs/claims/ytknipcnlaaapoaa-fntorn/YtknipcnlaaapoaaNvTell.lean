/- The writes of a copy told one by one to a function value. -/
import Derived.Test.YtknipcnlaaapoaaNvWith
namespace Go.Proofs.Ytknipcnlaaapoaa
open Go.RowKit
open Go.Lib (hid)

/-- The writes of a copy that begins at a place: the check struck, the numbers, the count, the check. -/
def tells (start m : Nat) (ns : List Int) (k c : Int) : List (Nat × Int) := (start, 0) :: ((List.range m).map (fun i => (start + 1 + i, ns.getD i 0)) ++ [(start + 1 + m, c), (start, k)])

theorem tells_len (start m : Nat) (ns : List Int) (k c : Int) : (tells start m ns k c).length = m + 3 := by simp [tells]

theorem tells_mid (start m : Nat) (ns : List Int) (k c : Int) (i : Nat) (h : i < m) : (tells start m ns k c)[i + 1]? = some (start + 1 + i, ns.getD i 0) := by
  unfold tells
  rw [List.getElem?_cons_succ, List.getElem?_append_left (by simpa using h)]
  simp [h]

theorem tells_cnt (start m : Nat) (ns : List Int) (k c : Int) : (tells start m ns k c)[m + 1]? = some (start + 1 + m, c) := by
  unfold tells
  rw [List.getElem?_cons_succ, List.getElem?_append_right (by simp)]
  simp

theorem tells_chk (start m : Nat) (ns : List Int) (k c : Int) : (tells start m ns k c)[m + 2]? = some (start, k) := by
  unfold tells
  rw [List.getElem?_cons_succ, List.getElem?_append_right (by simp)]
  simp

theorem nvc_at (k c : Int) (ns : List Int) (i : Nat) (h : i < ns.length) : (nvc k ns c)[1 + i]? = some (.int .i64 (ns.getD i 0)) := by
  have e : (nvc k ns c)[1 + i]? = (Value.int .i64 k :: (ints ns ++ [Value.int .i64 c]))[1 + i]? := by unfold nvc; simp
  rw [e, Nat.add_comm 1 i, List.getElem?_cons_succ, List.getElem?_append_left (by rw [ints_len]; exact h), ints_at ns i h]
  simp [List.getD, h]

/-- What a function that is told a write has to do. -/
def Puts (K : Nat) (ptr : List Value) (ws : List (Nat × Int)) (bx : Nat) (I : Nat → World → Prop) : Prop :=
  ∀ j n v W, ws[j]? = some (n, v) → I j W → Calls Try.prog K (#[.agg #[.int .i64 (n : Nat), .int .i64 v]] ++ ptr.toArray) W fun e w' => e = .returned (.tuple #[]) ∧ I (j + 1) w' ∧ w'.heap[bx]? = W.heap[bx]? ∧ W.heap.size ≤ w'.heap.size

set_option maxRecDepth 20000 in
set_option maxHeartbeats 1000000 in
theorem tell_writes (I : Nat → World → Prop) (k c : Int) (ns : List Int) (hn : ns.length = 20) (start m : Nat) (hs : start ≤ 22) (hm : m ≤ 20) (ptr : Value) (w : World) (hput : Puts 36 [ptr] (tells start m ns k c) w.heap.size I) (h0 : I 0 (w.alloc (.cells (nvc k ns c) 46))) :
    Calls Try.prog 35 #[.agg (nvc k ns c), .int .i64 start, .int .i64 m, .func (.func 36) #[] #[ptr]] w fun e w' => e = .returned (.tuple #[]) ∧ I (m + 3) w' := by
  have HP := hid hput
  have H0 := hid h0
  have hb0 : (w.alloc (.cells (nvc k ns c) 46)).heap[w.heap.size]? = some (.cells (nvc k ns c) 46) := heap_alloc_new _ _
  have HB0 := hid hb0
  clear hput h0 hb0
  have C0 := hid (fun W (h : I 0 W) => HP.out 0 start 0 W rfl h)
  have CI := hid (fun i (hi : i < m) W (h : I (i + 1) W) => HP.out (i + 1) _ _ W (tells_mid start m ns k c i hi) h)
  have CN := hid (fun W (h : I (m + 1) W) => HP.out (m + 1) _ _ W (tells_cnt start m ns k c) h)
  have CK := hid (fun W (h : I (m + 2) W) => HP.out (m + 2) _ _ W (tells_chk start m ns k c) h)
  have NL := hid (nvc_last k c ns hn)
  have NF := hid (nvc_first k c ns)
  have NA := hid (fun i (hi : i < m) => nvc_at k c ns i (by omega))
  go_enter Try.func35, Try.ntmps35
  go_wp2_with (go_at_call 36; refine (C0.out _ H0.out).mono ?_; rintro e w1 ⟨rfl, h1, hb1, hz1⟩)
  have hb1' := hb1.trans HB0.out
  have HB1 := hid hb1'
  have H1 := hid h1
  clear hb1 hb1' h1 hz1
  go_loopw [14] (fun iv wr => ∃ i : Nat, i ≤ m ∧ iv = .int .i64 i ∧ I (i + 1) wr ∧ wr.heap[w.heap.size]? = some (.cells (nvc k ns c) 46)) (fun iv _ => m - (RowKit.intOf iv).toNat)
  case atStart => exact ⟨0, Nat.zero_le _, rfl, H1.out, HB1.out⟩
  case round =>
    obtain ⟨i, hi, rfl, hI, hbl⟩ := hrel
    have HBL := hid hbl
    have HII := hid hI
    by_cases hlt : i < m
    · have hc1 : wr.cell? ⟨w.heap.size, 1 + i, none⟩ = some (.int .i64 (ns.getD i 0)) := by rw [cell_of_row wr _ (1 + i) _ _ _ hbl]; exact NA.out i hlt
      have CI2 := hid (CI.out i hlt wr hI)
      clear hbl hI
      generalize ns.getD i 0 = x at *
      have CAST := hid (show ((start + 1 + i : Nat) : Int) = (start : Int) + 1 + i by omega)
      rw [CAST.out] at CI2
      go_wp2_with (go_at_call 36; refine CI2.out.mono ?_; rintro e w5 ⟨rfl, h5, hb5, hz5⟩)
      have HB5 := hid (hb5.trans HBL.out)
      clear hb5
      go_roundw
      case rel => exact ⟨i + 1, by omega, by go_num, h5, HB5.out⟩
      case measure => simp [RowKit.intOf]; omega
    · have hie : i = m := by omega
      subst hie
      have hc1 : wr.cell? ⟨w.heap.size, 21, none⟩ = some (.int .i64 c) := by rw [cell_of_row wr _ 21 _ _ _ hbl]; exact NL.out
      have CN2 := hid (CN.out wr hI)
      have CAST := hid (show ((start + 1 + i : Nat) : Int) = (start : Int) + 1 + i by omega)
      rw [CAST.out] at CN2
      clear hbl hI
      go_wp2_with (first | (go_at_call_of 36 (Value.int .i64 c); refine CN2.out.mono ?_; rintro e w5 ⟨rfl, h5, hb5, hz5⟩; have hbl5 := hb5.trans HBL.out; have hc0 : w5.cell? ⟨w.heap.size, 0, none⟩ = some (.int .i64 k) := (by rw [cell_of_row w5 _ 0 _ _ _ hbl5]; exact NF.out); have H5 := hid h5; clear hb5 hbl5 h5) | (go_at_call_of 36 (Value.int .i64 k); refine (CK.out _ H5.out).mono ?_; rintro e w6 ⟨rfl, h6, _, _⟩))
      go_end0
      exact ⟨rfl, h6⟩
end Go.Proofs.Ytknipcnlaaapoaa
