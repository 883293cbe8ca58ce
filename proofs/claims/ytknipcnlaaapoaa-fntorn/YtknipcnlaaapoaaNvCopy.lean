/- The program's copies of an Nv, by value: 22 cells. -/
import Derived.Test.YtknipcnlaaapoaaIntRows
namespace Go.Proofs.Ytknipcnlaaapoaa
open Go.RowKit
open Go.Lib (hid)

/-- A copy's cells: its check, its numbers, its count. -/
def nvc (k : Int) (ns : List Int) (c : Int) : Array Value := (Value.int .i64 k :: (ints ns ++ [Value.int .i64 c])).toArray

theorem nvc_last (k c : Int) (ns : List Int) (hn : ns.length = 20) : (nvc k ns c)[21]? = some (.int .i64 c) := by
  have e : (nvc k ns c)[21]? = (Value.int .i64 k :: (ints ns ++ [Value.int .i64 c]))[21]? := by unfold nvc; simp
  rw [e, List.getElem?_cons_succ, List.getElem?_append_right (by simp [ints]; omega)]
  simp [ints, hn]

theorem nvc_range (k c : Int) (ns : List Int) (b : Nat) (t : TypeId) (fr : Nat × Nat) (w : World) (hb : w.heap[b]? = some (.cells (nvc k ns c) t fr)) : w.rangeAt b 1 (ints ns) := fun j v hv => by
  rw [cell_of_row w b (1 + j) _ t fr hb]
  have e : (nvc k ns c)[1 + j]? = (Value.int .i64 k :: (ints ns ++ [Value.int .i64 c]))[1 + j]? := by unfold nvc; simp
  rw [e, Nat.add_comm 1 j, List.getElem?_cons_succ, List.getElem?_append_left (List.getElem?_eq_some_iff.1 hv).1]
  exact hv

theorem nvc_size (k c : Int) (ns : List Int) (hn : ns.length = 20) : (nvc k ns c).size = 22 := by unfold nvc; simp [ints]; omega

theorem nvc_set (k k' c : Int) (ns : List Int) : (nvc k ns c).setIfInBounds 0 (.int .i64 k') = nvc k' ns c := by unfold nvc; simp

theorem nvc_one (k c : Int) (ns : List Int) : (nvc k ns c).all (·.oneCell') = true := by
  refine all_oneCell_toArray fun v hv => ?_
  rcases List.mem_cons.1 hv with rfl | hv
  · rfl
  · rcases List.mem_append.1 hv with hv | hv
    · exact ints_one ns v hv
    · obtain rfl := List.mem_singleton.1 hv; rfl

theorem nvc_first (k c : Int) (ns : List Int) : (nvc k ns c)[0]? = some (.int .i64 k) := by unfold nvc; simp

set_option maxRecDepth 20000 in
theorem checked_calls (k c : Int) (ns : List Int) (hn : ns.length = 20) (hb : Numb ns) (hc : 0 ≤ c ∧ c ≤ 1000000001) (w : World) :
    Calls Try.prog 47 #[.agg (nvc k ns c)] w fun e w' => e = .returned (.agg (nvc (1 + (c + ns.sum) % 999983) ns c)) ∧ Below w.heap.size w w' := by
  have h21 := nvc_last k c ns hn
  have HN := hid hb
  clear hb
  go_enter Try.func47, Try.ntmps47
  go_wp2_with (refine wpList_load_mid rfl 44 _ rfl w.heap.size 1 rfl (ints ns) _ (nvc_range k c ns w.heap.size 46 (0, 0) _ (heap_alloc2_old _ _ _)) Try.underlying44 rfl ?_ ?_; (· show _ = some (ints ns).length; rw [show (ints ns).length = 20 by simp [ints, hn]]; kernel_rfl))
  go_loop [3, 10] (fun sv iv => ∃ i : Nat, ∃ t : Int, i ≤ 20 ∧ iv = .int .i64 i ∧ sv = .int .i64 t ∧ 0 ≤ t ∧ t ≤ 30000000000 ∧ Hid (t = c + (ns.take i).sum)) (fun _ iv => 20 - (RowKit.intOf iv).toNat)
  case atStart => exact ⟨0, c, by omega, rfl, rfl, by omega, by omega, hid (by simp)⟩
  case round =>
    obtain ⟨i, t, hi, rfl, rfl, ht0, ht1, HT⟩ := hrel
    by_cases hlt : i < 20
    · have hil : i < ns.length := by omega
      have hy := HN.out ns[i] (List.getElem_mem hil)
      have HS := hid (sum_take ns i hil)
      have hs := numb_sum (numb_take HN.out (i + 1))
      rw [HS.out, List.length_take] at hs
      have hbd : 0 ≤ t + ns[i] ∧ t + ns[i] ≤ 30000000000 := by rw [HT.out]; omega
      have hix := fun W => run_index_ints (P := Try.prog) 44 2 ns i hil (by rw [hn]; exact Try.underlying44) Try.isAgg2 Try.sizeOf2 W
      generalize ns[i] = x at *
      clear hs
      go_wp2
      go_round
      case rel => exact ⟨i + 1, t + x, by omega, by go_num, rfl, by omega, by omega, hid (by rw [HS.out, HT.out]; omega)⟩
      case measure => simp [RowKit.intOf]; omega
    · have hie : i = 20 := by omega
      subst hie
      have h0 := nvc_first k c ns
      have hset := fun k' => nvc_set k k' c ns
      go_wp2_with (first | (refine wpList_load_row rfl 46 _ rfl w.heap.size rfl 46 (nvc (1 + t % 999983) ns c) (0, 0) _ (heap_alloc2_old _ _ _) Try.underlying46 rfl ?_ ?_; (· rw [nvc_size _ c ns hn]; kernel_rfl)) | (refine wpList_store_row rfl 46 _ _ rfl (w.heap.size + 1) (nvc (1 + t % 999983) ns c) rfl rfl 46 _ (heap_alloc2_new _ _ _) ?_ ?_ (nvc_one _ c ns) ?_; (· rw [nvc_size _ c ns hn]; kernel_rfl); (· rw [nvc_size _ c ns hn]; rfl)))
      refine bodyPost_ret (v := .agg (nvc (1 + t % 999983) ns c)) (results_cell_row (p := 2) Try.results47 _ _ (w.heap.size + 1) 46 _ (0, 0) _ rfl (setRow_heap _ _ _ _ _ _ (heap_alloc2_new _ _ _)) Try.underlying46 rfl (by rw [nvc_size _ c ns hn]; kernel_rfl)) rfl ⟨?_, ?_⟩
      · rw [HT.out, List.take_of_length_le (by omega)]
      · exact below_setRow (((Below.refl _ _).alloc (Nat.le_refl _) _).alloc (by simp) _) (by omega) _
end Go.Proofs.Ytknipcnlaaapoaa
