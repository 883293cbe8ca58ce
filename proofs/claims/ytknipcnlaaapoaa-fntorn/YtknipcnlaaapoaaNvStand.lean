/- Which of both copies stands. -/
import Derived.Test.YtknipcnlaaapoaaNvTwo
namespace Go.Proofs.Ytknipcnlaaapoaa
open Go.RowKit
open Go.Lib (hid)

attribute [local go_sem ↓] buildD_eq storeD_eq loadD_eq loadC_eq

theorem loadC_mid (V : Array Value) (hV : V.size = 22) (b o : Nat) (W : World) (h : W.rangeAt b o V.toList) : (loadC (.pointer (some ⟨b, o, none⟩))).run Try.prog W = .ok (.agg V) W := by
  unfold loadC
  have := run_loadAt_mid (P := Try.prog) W b o 46 V.toList _ h Try.underlying46 rfl (by rw [Array.length_toList, hV]; kernel_rfl)
  simpa using this

theorem range_two (A B : Array Value) (hA : A.size = 22) (b : Nat) (W : World) (t : TypeId) (fr : Nat × Nat) (h : W.heap[b]? = some (.cells (A ++ B) t fr)) : W.rangeAt b 0 A.toList ∧ W.rangeAt b 22 B.toList := by
  constructor
  · intro j v hv
    rw [cell_of_row W b (0 + j) _ t fr h]
    have hj := (List.getElem?_eq_some_iff.1 hv).1
    rw [Array.length_toList] at hj
    rw [Nat.zero_add, Array.getElem?_append_left hj]
    simpa using hv
  · intro j v hv
    rw [cell_of_row W b (22 + j) _ t fr h, Array.getElem?_append_right (by omega), hA, Nat.add_sub_cancel_left]
    simpa using hv

/-- Which copy stands: 1, 0, or none. -/
def standP (fa fb : Bool) (ca cb : Int) : Int × Bool := if fb && (!fa || decide (cb > ca)) then (1, true) else (0, fa)

set_option maxRecDepth 20000 in
set_option maxHeartbeats 1000000 in
theorem standing_calls (ka kb ca cb : Int) (na nb : List Int) (hna : na.length = 20) (hnb : nb.length = 20) (ha : Numb na) (hb : Numb nb) (hca : 0 ≤ ca ∧ ca ≤ 1000000000) (hcb : 0 ≤ cb ∧ cb ≤ 1000000000) (w : World) :
    Calls Try.prog 19 #[.agg (nvc ka na ca ++ nvc kb nb cb)] w fun e w' => e = .returned (.tuple #[.int .i64 (standP (wholeB ka na ca) (wholeB kb nb cb) ca cb).1, .bool (standP (wholeB ka na ca) (wholeB kb nb cb) ca cb).2]) ∧ Below w.heap.size w w' := by
  have sA := nvc_size ka ca na hna
  have sB := nvc_size kb cb nb hnb
  have a21 := nvc_last ka ca na hna
  have b21 := nvc_last kb cb nb hnb
  have CA := hid (fun W => whole_calls ka ca na hna ha hca W)
  have CB := hid (fun W => whole_calls kb cb nb hnb hb hcb W)
  clear ha hb hna hnb
  generalize nvc ka na ca = A at *
  generalize nvc kb nb cb = B at *
  generalize wholeB ka na ca = fa at *
  generalize wholeB kb nb cb = fb at *
  have hblk : ∀ W : World, Below (w.heap.size + 1) (w.alloc (.cells (A ++ B) 47)) W → W.heap[w.heap.size]? = some (.cells (A ++ B) 47) := fun W hW => (hW.block _ (Nat.lt_succ_self _)).trans (heap_alloc_new _ _)
  have l1 : ∀ W : World, Below (w.heap.size + 1) (w.alloc (.cells (A ++ B) 47)) W → (loadC (.pointer (some ⟨w.heap.size, 0, none⟩))).run Try.prog W = .ok (.agg A) W := fun W hW => loadC_mid A sA _ 0 W (range_two A B sA _ W _ _ (hblk W hW)).1
  have l2 : ∀ W : World, Below (w.heap.size + 1) (w.alloc (.cells (A ++ B) 47)) W → (loadC (.pointer (some ⟨w.heap.size, 22, none⟩))).run Try.prog W = .ok (.agg B) W := fun W hW => loadC_mid B sB _ 22 W (range_two A B sA _ W _ _ (hblk W hW)).2
  have c1 : ∀ W : World, Below (w.heap.size + 1) (w.alloc (.cells (A ++ B) 47)) W → W.cell? ⟨w.heap.size, 21, none⟩ = some (.int .i64 ca) := fun W hW => by
    rw [cell_of_row W _ 21 _ _ _ (hblk W hW), Array.getElem?_append_left (by omega)]; exact a21
  have c2 : ∀ W : World, Below (w.heap.size + 1) (w.alloc (.cells (A ++ B) 47)) W → W.cell? ⟨w.heap.size, 43, none⟩ = some (.int .i64 cb) := fun W hW => by
    rw [cell_of_row W _ 43 _ _ _ (hblk W hW), Array.getElem?_append_right (by omega), sA]; exact b21
  clear hblk a21 b21 sA sB
  go_enter Try.func19, Try.ntmps19
  go_wp2
  go_region_held3 (fun w' => Below (w.heap.size + 1) (w.alloc (.cells (A ++ B) 47)) w') (first | with_reducible assumption | exact Below.drew (Below.refl _ _) | exact below_step (by assumption) (by simp) (by assumption)) ((first | (go_at_call_of 42 (Value.agg A); refine (CA.out _).mono ?_; rintro e w5 ⟨rfl, hb5⟩) | (go_at_call_of 42 (Value.agg B); refine (CB.out _).mono ?_; rintro e w5 ⟨rfl, hb5⟩)))
  rename_i hS
  have k1 := c1 w5 hS
  have k2 := c2 w5 hS
  have HS := hid (((Below.refl w.heap.size w).alloc (Nat.le_refl _) (.cells (A ++ B) 47)).trans (hS.mono (Nat.le_succ _)))
  clear hS l1 l2 c1 c2 hb5
  by_cases hgt : cb > ca
  · have HG : Hid (decide (cb > ca) = true) := hid (decide_eq_true hgt)
    cases fb <;> cases fa
    all_goals
      go_wp2
      go_ret2
      exact ⟨by unfold standP; rw [HG.out]; rfl, HS.out⟩
  · have hd : decide (cb > ca) = false := decide_eq_false hgt
    have HG := hid hd
    cases fb <;> cases fa
    all_goals
      go_wp2
      go_ret2
      exact ⟨by unfold standP; rw [HG.out]; rfl, HS.out⟩
end Go.Proofs.Ytknipcnlaaapoaa
