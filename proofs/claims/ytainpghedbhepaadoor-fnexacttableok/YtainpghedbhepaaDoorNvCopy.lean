/- The program's copies of an Nv, by value: 22 cells. -/
import Derived.Test.YtainpghedbhepaaDoorIntRows
namespace Go.Proofs.YtainpghedbhepaaDoor
open Go.RowKit
open Go.Lib (hid)

/-- A copy's cells: its check, its numbers, its count. -/
def nvc (k : Int) (ns : List Int) (c : Int) : Array Value := (Value.int .i64 k :: (ints ns ++ [Value.int .i64 c])).toArray

theorem nvc_last (k c : Int) (ns : List Int) (hn : ns.length = 20) : (nvc k ns c)[21]? = some (.int .i64 c) := by
  have e : (nvc k ns c)[21]? = (Value.int .i64 k :: (ints ns ++ [Value.int .i64 c]))[21]? := by unfold nvc; simp
  rw [e, List.getElem?_cons_succ, List.getElem?_append_right (by simp [ints]; omega)]
  simp [ints, hn]

theorem nvc_range (k c : Int) (ns : List Int) (b : Nat) (t : TypeId) (fr : Nat × Nat) (w : World) (hb : w.heap[b]? = some (.cells (nvc k ns c) t fr)) : w.rangeAt b 1 (ints ns) := fun j v hv => by
  rw [cell_of_row w b (1 + j) _ t fr hb]
  have e : (nvc k ns c)[1 + j]? = (Value.int .i64 k :: (ints ns ++ [Value.int .i64 c]))[1 + j]? := by unfold nvc; simp
  rw [e, Nat.add_comm 1 j, List.getElem?_cons_succ, List.getElem?_append_left (List.getElem?_eq_some_iff.1 hv).1]
  exact hv

theorem nvc_size (k c : Int) (ns : List Int) (hn : ns.length = 20) : (nvc k ns c).size = 22 := by unfold nvc; simp [ints]; omega

theorem nvc_set (k k' c : Int) (ns : List Int) : (nvc k ns c).setIfInBounds 0 (.int .i64 k') = nvc k' ns c := by unfold nvc; simp

theorem nvc_one (k c : Int) (ns : List Int) : (nvc k ns c).all (·.oneCell') = true := by
  refine all_oneCell_toArray fun v hv => ?_
  rcases List.mem_cons.1 hv with rfl | hv
  · rfl
  · rcases List.mem_append.1 hv with hv | hv
    · exact ints_one ns v hv
    · obtain rfl := List.mem_singleton.1 hv; rfl

theorem nvc_first (k c : Int) (ns : List Int) : (nvc k ns c)[0]? = some (.int .i64 k) := by unfold nvc; simp

end Go.Proofs.YtainpghedbhepaaDoor
