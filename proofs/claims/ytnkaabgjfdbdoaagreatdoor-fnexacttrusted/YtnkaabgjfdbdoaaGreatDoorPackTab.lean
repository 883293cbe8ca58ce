/- Laid together: IntRows, NvCopy, NvRows, TwoBox. -/
import Derived.Test.YtnkaabgjfdbdoaaGreatDoorProg
import Derived.WalkKit
import Derived.WalkSpells
import Derived.WalkLawsBesides
import Derived.Lib.Hide
import Derived.Deep.MidRow
import Derived.Laws.CopyOwn
import Derived.Deep.QuietTactic
import Derived.BigQuiet
import Derived.RegionTactic
import Derived.Test.YtnkaabgjfdbdoaaGreatDoorBase

namespace Go.Proofs.YtnkaabgjfdbdoaaGreatDoor
open Go.RowKit
open Go.Lib (hid)

/-- Integers as they lie in a row. -/
def ints (l : List Int) : List Value := l.map (Value.int .i64)

theorem ints_len (l : List Int) : (ints l).length = l.length := by simp [ints]

theorem ints_at (l : List Int) (i : Nat) (h : i < l.length) : (ints l)[i]? = some (.int .i64 l[i]) := by simp [ints, h]

theorem ints_append (a b : List Int) : ints (a ++ b) = ints a ++ ints b := by simp [ints]

theorem ints_one (l : List Int) : ∀ v ∈ ints l, v.oneCell' = true := by
  intro v hv
  obtain ⟨x, _, rfl⟩ := List.mem_map.1 hv
  rfl

/-- All numbers of a list lie in 0 .. a thousand million. -/
def Numb (l : List Int) : Prop := ∀ x ∈ l, 0 ≤ x ∧ x ≤ 1000000000

/-- The same as a test. -/
def numbB (l : List Int) : Bool := l.all fun x => decide (0 ≤ x ∧ x ≤ 1000000000)

theorem numbB_iff {l : List Int} : numbB l = true ↔ Numb l := by simp [numbB, Numb]

theorem numbB_no {l : List Int} (h : ¬ Numb l) : numbB l = false := by
  cases hb : numbB l with
  | false => rfl
  | true => exact absurd (numbB_iff.1 hb) h

theorem numb_sum {l : List Int} (h : Numb l) : 0 ≤ l.sum ∧ l.sum ≤ l.length * 1000000000 := by
  induction l with
  | nil => simp
  | cons a l ih =>
    have h1 := h a (by simp)
    have h2 := ih (fun x hx => h x (by simp [hx]))
    simp only [List.sum_cons, List.length_cons]
    omega

theorem numb_take {l : List Int} (h : Numb l) (i : Nat) : Numb (l.take i) := fun x hx => h x (List.mem_of_mem_take hx)

theorem numb_succ (l : List Int) (i : Nat) (h : i < l.length) : Numb (l.take (i + 1)) ↔ Numb (l.take i) ∧ 0 ≤ l[i] ∧ l[i] ≤ 1000000000 := by
  rw [List.take_succ_eq_append_getElem h]
  constructor
  · intro hn
    exact ⟨fun x hx => hn x (List.mem_append_left _ hx), hn l[i] (List.mem_append_right _ (List.mem_singleton.2 rfl))⟩
  · intro hn x hx
    rcases List.mem_append.1 hx with hx | hx
    · exact hn.1 x hx
    · obtain rfl := List.mem_singleton.1 hx; exact hn.2

theorem sum_take (l : List Int) (i : Nat) (h : i < l.length) : (l.take (i + 1)).sum = (l.take i).sum + l[i] := by
  rw [List.take_succ_eq_append_getElem h, List.sum_append]; simp

/-- 'a[i]' of an array of integers by value. -/
theorem run_index_ints {P : Program} (t e : TypeId) (l : List Int) (i : Nat) (hi : i < l.length) (hu : P.underlying t = some (.array l.length e)) (ha : ∀ w, (isAgg e).run P w = .ok false w) (hz : ∀ w, (sizeOf e).run P w = .ok 1 w) (w : World) :
    (Instr.index t (.agg (ints l).toArray) (.int .i64 i)).run P w = .ok (.int .i64 l[i]) w := by
  have h1 : (0 ≤ (i : Int) ∧ (i : Int) < (l.length : Int)) := by omega
  have h2 := ints_at l i hi
  simp [Instr.index, run_underlying hu, asIntOf, Sem.run_bind, part, ha, hz, hi, h2]
end Go.Proofs.YtnkaabgjfdbdoaaGreatDoor

namespace Go.Proofs.YtnkaabgjfdbdoaaGreatDoor
open Go.RowKit
open Go.Lib (hid)

/-- A copy's cells: its check, its numbers, its count. -/
def nvc (k : Int) (ns : List Int) (c : Int) : Array Value := (Value.int .i64 k :: (ints ns ++ [Value.int .i64 c])).toArray

theorem nvc_last (k c : Int) (ns : List Int) (hn : ns.length = 20) : (nvc k ns c)[21]? = some (.int .i64 c) := by
  have e : (nvc k ns c)[21]? = (Value.int .i64 k :: (ints ns ++ [Value.int .i64 c]))[21]? := by unfold nvc; simp
  rw [e, List.getElem?_cons_succ, List.getElem?_append_right (by simp [ints]; omega)]
  simp [ints, hn]

theorem nvc_range (k c : Int) (ns : List Int) (b : Nat) (t : TypeId) (fr : Nat × Nat) (w : World) (hb : w.heap[b]? = some (.cells (nvc k ns c) t fr)) : w.rangeAt b 1 (ints ns) := fun j v hv => by
  rw [cell_of_row w b (1 + j) _ t fr hb]
  have e : (nvc k ns c)[1 + j]? = (Value.int .i64 k :: (ints ns ++ [Value.int .i64 c]))[1 + j]? := by unfold nvc; simp
  rw [e, Nat.add_comm 1 j, List.getElem?_cons_succ, List.getElem?_append_left (List.getElem?_eq_some_iff.1 hv).1]
  exact hv

theorem nvc_size (k c : Int) (ns : List Int) (hn : ns.length = 20) : (nvc k ns c).size = 22 := by unfold nvc; simp [ints]; omega

theorem nvc_set (k k' c : Int) (ns : List Int) : (nvc k ns c).setIfInBounds 0 (.int .i64 k') = nvc k' ns c := by unfold nvc; simp

theorem nvc_one (k c : Int) (ns : List Int) : (nvc k ns c).all (·.oneCell') = true := by
  refine all_oneCell_toArray fun v hv => ?_
  rcases List.mem_cons.1 hv with rfl | hv
  · rfl
  · rcases List.mem_append.1 hv with hv | hv
    · exact ints_one ns v hv
    · obtain rfl := List.mem_singleton.1 hv; rfl

theorem nvc_first (k c : Int) (ns : List Int) : (nvc k ns c)[0]? = some (.int .i64 k) := by unfold nvc; simp

set_option maxRecDepth 20000 in
theorem checked_calls (k c : Int) (ns : List Int) (hn : ns.length = 20) (hb : Numb ns) (hc : 0 ≤ c ∧ c ≤ 1000000001) (w : World) :
    Calls Tryz.prog 221 #[.agg (nvc k ns c)] w fun e w' => e = .returned (.agg (nvc (1 + (c + ns.sum) % 999983) ns c)) ∧ Below w.heap.size w w' := by
  have h21 := nvc_last k c ns hn
  have HN := hid hb
  clear hb
  go_enter Tryz.func221, Tryz.ntmps221
  go_wp2_with (refine wpList_load_mid rfl 236 _ rfl w.heap.size 1 rfl (ints ns) _ (nvc_range k c ns w.heap.size 238 (0, 0) _ (heap_alloc2_old _ _ _)) Tryz.underlying236 rfl ?_ ?_; (· show _ = some (ints ns).length; rw [show (ints ns).length = 20 by simp [ints, hn]]; kernel_rfl))
  go_loop [3, 10] (fun sv iv => ∃ i : Nat, ∃ t : Int, i ≤ 20 ∧ iv = .int .i64 i ∧ sv = .int .i64 t ∧ 0 ≤ t ∧ t ≤ 30000000000 ∧ Hid (t = c + (ns.take i).sum)) (fun _ iv => 20 - (RowKit.intOf iv).toNat)
  case atStart => exact ⟨0, c, by omega, rfl, rfl, by omega, by omega, hid (by simp)⟩
  case round =>
    obtain ⟨i, t, hi, rfl, rfl, ht0, ht1, HT⟩ := hrel
    by_cases hlt : i < 20
    · have hil : i < ns.length := by omega
      have hy := HN.out ns[i] (List.getElem_mem hil)
      have HS := hid (sum_take ns i hil)
      have hs := numb_sum (numb_take HN.out (i + 1))
      rw [HS.out, List.length_take] at hs
      have hbd : 0 ≤ t + ns[i] ∧ t + ns[i] ≤ 30000000000 := by rw [HT.out]; omega
      have hix := fun W => run_index_ints (P := Tryz.prog) 236 2 ns i hil (by rw [hn]; exact Tryz.underlying236) Tryz.isAgg2 Tryz.sizeOf2 W
      generalize ns[i] = x at *
      clear hs
      go_wp2
      go_round
      case rel => exact ⟨i + 1, t + x, by omega, by go_num, rfl, by omega, by omega, hid (by rw [HS.out, HT.out]; omega)⟩
      case measure => simp [RowKit.intOf]; omega
    · have hie : i = 20 := by omega
      subst hie
      have h0 := nvc_first k c ns
      have hset := fun k' => nvc_set k k' c ns
      go_wp2_with (first | (refine wpList_load_row rfl 238 _ rfl w.heap.size rfl 238 (nvc (1 + t % 999983) ns c) (0, 0) _ (heap_alloc2_old _ _ _) Tryz.underlying238 rfl ?_ ?_; (· rw [nvc_size _ c ns hn]; kernel_rfl)) | (refine wpList_store_row rfl 238 _ _ rfl (w.heap.size + 1) (nvc (1 + t % 999983) ns c) rfl rfl 238 _ (heap_alloc2_new _ _ _) ?_ ?_ (nvc_one _ c ns) ?_; (· rw [nvc_size _ c ns hn]; kernel_rfl); (· rw [nvc_size _ c ns hn]; rfl)))
      refine bodyPost_ret (v := .agg (nvc (1 + t % 999983) ns c)) (results_cell_row (p := 2) Tryz.results221 _ _ (w.heap.size + 1) 238 _ (0, 0) _ rfl (setRow_heap _ _ _ _ _ _ (heap_alloc2_new _ _ _)) Tryz.underlying238 rfl (by rw [nvc_size _ c ns hn]; kernel_rfl)) rfl ⟨?_, ?_⟩
      · rw [HT.out, List.take_of_length_le (by omega)]
      · exact below_setRow (((Below.refl _ _).alloc (Nat.le_refl _) _).alloc (by simp) _) (by omega) _
end Go.Proofs.YtnkaabgjfdbdoaaGreatDoor

namespace Go.Proofs.YtnkaabgjfdbdoaaGreatDoor
open Go.RowKit
open Go.Lib (hid)

/-- A slice of integers, wherever it begins in its block. -/
def RowIn (w : World) (a : Value) (l : List Int) : Prop :=
  ∃ p c, a = .slice p l.length c ∧ l.length ≤ c ∧ (l ≠ [] → ∃ g o, p = some ⟨g, o, none⟩ ∧ g < w.heap.size ∧ ∀ j (h : j < l.length), w.cell? ⟨g, o + j, none⟩ = some (.int .i64 l[j]))

theorem RowIn.on {w w' : World} {a : Value} {l : List Int} (h : RowIn w a l) (hb : Below w.heap.size w w') : RowIn w' a l := by
  obtain ⟨p, c, rfl, hc, hp⟩ := h
  refine ⟨p, c, rfl, hc, fun hne => ?_⟩
  obtain ⟨g, o, rfl, hg, hcell⟩ := hp hne
  exact ⟨g, o, rfl, Nat.lt_of_lt_of_le hg hb.size, fun j hj => by rw [hb.cell (p := ⟨g, o + j, none⟩) hg]; exact hcell j hj⟩

theorem row_in_own {w : World} {base : Nat} {a : Value} {l : List Int} (h : w.ownsRow base 2 1 a l.length (ints l)) : RowIn w a l := by
  rcases h.2 with ⟨hv, hz⟩ | ⟨g, cap, cur, e1, hbg, hg, hnc, _⟩
  · have hl : l = [] := List.eq_nil_of_length_eq_zero hz
    subst hl
    exact ⟨none, 0, hv, Nat.le_refl _, fun h => absurd rfl h⟩
  · refine ⟨_, cap, e1, hnc, fun _ => ⟨g, 0, rfl, (Array.getElem?_eq_some_iff.1 hg).1, fun j hj => ?_⟩⟩
    have := h.cells (g := g) (by rw [e1]; rfl) j (.int .i64 l[j]) (ints_at l j hj)
    rw [Addr.add_mid] at this
    exact this

theorem areNumbers_calls (l : List Int) (hn : l.length ≤ 1048576) (a : Value) (w : World) (ha : RowIn w a l) :
    Calls Tryz.prog 202 #[a] w fun e w' => e = .returned (.bool (numbB l)) ∧ w' = w := by
  obtain ⟨p, c, rfl, hc, hp⟩ := ha
  have HP := hid hp
  clear hp
  go_enter Tryz.func202, Tryz.ntmps202
  go_wp2
  go_loop [7] (fun iv => ∃ i : Nat, i ≤ l.length ∧ iv = .int .i64 i ∧ Hid (Numb (l.take i))) (fun iv => l.length - (RowKit.intOf iv).toNat)
  case atStart => exact ⟨0, Nat.zero_le _, rfl, hid (fun x hx => by simp at hx)⟩
  case round =>
    obtain ⟨i, hi, rfl, HN⟩ := hrel
    by_cases hlt : i < l.length
    · obtain ⟨g, o, rfl, hg, hcell⟩ := HP.out (fun h => by rw [h] at hlt; cases hlt)
      have hc1 := hcell i hlt
      have HS := hid (numb_succ l i hlt)
      have HI := hid (List.getElem_mem hlt)
      clear hcell
      generalize l[i] = x at *
      by_cases hx0 : x < 0
      · go_wp2
        go_ret
        refine ⟨?_, rfl⟩
        rw [numbB_no (fun h => by have := h x HI.out; omega)]; rfl
      · by_cases hx1 : x > 1000000000
        · go_wp2
          go_ret
          refine ⟨?_, rfl⟩
          rw [numbB_no (fun h => by have := h x HI.out; omega)]; rfl
        · go_wp2
          go_round
          case rel => exact ⟨i + 1, by omega, by go_num, hid (HS.out.2 ⟨HN.out, by omega, by omega⟩)⟩
          case measure => simp [RowKit.intOf]; omega
    · have hie : i = l.length := by omega
      subst hie
      go_wp2
      go_ret
      refine ⟨?_, rfl⟩
      have := HN.out
      rw [List.take_of_length_le (Nat.le_refl _)] at this
      rw [numbB_iff.2 this]
      rfl

/-- Can an Nv of this size keep them? -/
def ValsP (l : List Int) (size : Int) : Prop := 1 ≤ size ∧ size ≤ 20 ∧ (l.length : Int) = size ∧ Numb l

/-- The same as a test. -/
def valsB (l : List Int) (size : Int) : Bool := decide (1 ≤ size ∧ size ≤ 20 ∧ (l.length : Int) = size) && numbB l

theorem valsB_iff {l : List Int} {size : Int} : valsB l size = true ↔ ValsP l size := by simp [valsB, ValsP, numbB_iff, and_assoc]

theorem valsB_no {l : List Int} {size : Int} (h : ¬ ValsP l size) : valsB l size = false := by
  cases hb : valsB l size with
  | false => rfl
  | true => exact absurd (valsB_iff.1 hb) h

theorem areValues_calls (l : List Int) (hn : l.length ≤ 1048576) (size : Int) (a : Value) (w : World) (ha : RowIn w a l) :
    Calls Tryz.prog 257 #[a, .int .i64 size] w fun e w' => e = .returned (.bool (valsB l size)) ∧ w' = w := by
  have HA := hid ha
  obtain ⟨p, c, rfl, hc, _⟩ := ha
  by_cases h1 : 1 ≤ size
  · by_cases h2 : size ≤ 20
    · by_cases h3 : (l.length : Int) = size
      · have h3b : ((l.length : Int) == size) = true := by rw [beq_iff_eq]; exact h3
        have e : valsB l size = numbB l := by simp [valsB, h1, h2, h3]
        rw [e]
        clear e
        go_enter Tryz.func257, Tryz.ntmps257
        go_wp2_with (go_at_call 202; refine (areNumbers_calls l hn _ _ HA.out).mono ?_; rintro e w1 ⟨rfl, rfl⟩)
        go_ret
        exact ⟨rfl, rfl⟩
      · have h3b : ((l.length : Int) == size) = false := by rw [beq_eq_false_iff_ne]; exact h3
        rw [valsB_no (fun h => h3 h.2.2.1)]
        go_enter Tryz.func257, Tryz.ntmps257
        go_wp2
        go_ret
        exact ⟨rfl, rfl⟩
    · rw [valsB_no (fun h => h2 h.2.1)]
      go_enter Tryz.func257, Tryz.ntmps257
      go_wp2
      go_ret
      exact ⟨rfl, rfl⟩
  · rw [valsB_no (fun h => h1 h.1)]
    go_enter Tryz.func257, Tryz.ntmps257
    go_wp2
    go_ret
    exact ⟨rfl, rfl⟩

theorem words_calls (size : Int) (h1 : 1 ≤ size) (h2 : size ≤ 20) (w : World) :
    Calls Tryz.prog 123 #[.int .i64 size] w fun e w' => e = .returned (.int .i64 (size + 2)) ∧ w' = w := by
  go_enter Tryz.func123, Tryz.ntmps123
  go_wp2
  go_ret
  exact ⟨rfl, rfl⟩

/-- Is an Nv formed? -/
def FormP (size : Int) (ws : List Int) : Prop := 1 ≤ size ∧ size ≤ 20 ∧ (ws.length : Int) = 2 * (size + 2) ∧ Numb ws

/-- The same as a test. -/
def formB (size : Int) (ws : List Int) : Bool := decide (1 ≤ size ∧ size ≤ 20 ∧ (ws.length : Int) = 2 * (size + 2)) && numbB ws

theorem formB_iff {size : Int} {ws : List Int} : formB size ws = true ↔ FormP size ws := by simp [formB, FormP, numbB_iff, and_assoc]

theorem formB_no {size : Int} {ws : List Int} (h : ¬ FormP size ws) : formB size ws = false := by
  cases hb : formB size ws with
  | false => rfl
  | true => exact absurd (formB_iff.1 hb) h

theorem formed_calls (size : Int) (ws : List Int) (hn : ws.length ≤ 1048576) (a : Value) (w : World) (ha : RowIn w a ws) :
    Calls Tryz.prog 190 #[.agg #[.int .i64 size, a]] w fun e w' => e = .returned (.bool (formB size ws)) ∧ Below w.heap.size w w' := by
  have HA := hid ha
  obtain ⟨p, c, rfl, hc, _⟩ := ha
  by_cases h1 : 1 ≤ size
  · have d1 : decide (size ≥ 1) = true := decide_eq_true h1
    by_cases h2 : size ≤ 20
    · have d2 : decide (size ≤ 20) = true := decide_eq_true h2
      by_cases h3 : (ws.length : Int) = 2 * (size + 2)
      · have h3b : ((ws.length : Int) == 2 * (size + 2)) = true := by rw [beq_iff_eq]; exact h3
        have e : formB size ws = numbB ws := by simp [formB, h1, h2, h3]
        rw [e]
        clear e
        have HAN := hid (fun W hW => areNumbers_calls ws hn _ W (HA.out.on hW))
        go_enter Tryz.func190, Tryz.ntmps190
        go_wp2
        go_quiet ((first | (go_at_call 123; exact Calls.quiet_of_same (words_calls size h1 h2 _)) | (go_at_call 202; exact Calls.quiet_of_same (HAN.out _ (by exact drewN_below ((Below.refl _ _).alloc (Nat.le_refl _) _) _)))))
        go_wp2
        go_ret
        exact ⟨rfl, drewN_below ((Below.refl _ _).alloc (Nat.le_refl _) _) _⟩
      · have h3b : ((ws.length : Int) == 2 * (size + 2)) = false := by rw [beq_eq_false_iff_ne]; exact h3
        rw [formB_no (fun h => h3 h.2.2.1)]
        go_enter Tryz.func190, Tryz.ntmps190
        go_wp2
        go_quiet ((go_at_call 123; exact Calls.quiet_of_same (words_calls size h1 h2 _)))
        go_wp2
        go_ret
        exact ⟨rfl, drewN_below ((Below.refl _ _).alloc (Nat.le_refl _) _) _⟩
    · have d2 : decide (size ≤ 20) = false := decide_eq_false h2
      rw [formB_no (fun h => h2 h.2.1)]
      go_enter Tryz.func190, Tryz.ntmps190
      go_wp2
      go_quiet (fail)
      go_wp2
      go_ret
      exact ⟨rfl, drewN_below ((Below.refl _ _).alloc (Nat.le_refl _) _) _⟩
  · have d1 : decide (size ≥ 1) = false := decide_eq_false h1
    rw [formB_no (fun h => h1 h.1)]
    go_enter Tryz.func190, Tryz.ntmps190
    go_wp2
    go_quiet (fail)
    go_wp2
    go_ret
    exact ⟨rfl, drewN_below ((Below.refl _ _).alloc (Nat.le_refl _) _) _⟩
end Go.Proofs.YtnkaabgjfdbdoaaGreatDoor

namespace Go.Proofs.YtnkaabgjfdbdoaaGreatDoor
open Go.RowKit

theorem heap_two_old {w : World} (x y : Obj) : ((w.alloc x).alloc y).heap[w.heap.size]? = some x := by
  have h := heap_alloc_new w x
  rw [(((Below.refl (w.alloc x).heap.size (w.alloc x)).alloc (Nat.le_refl _) y).block _ (by simp))]
  exact h

theorem heap_two_new {w : World} (x y : Obj) : ((w.alloc x).alloc y).heap[w.heap.size + 1]? = some y := by
  have h := heap_alloc_new (w.alloc x) y
  simpa using h

theorem size_two (w : World) (x y : Obj) : ((w.alloc x).alloc y).heap.size = w.heap.size + 2 := by simp
end Go.Proofs.YtnkaabgjfdbdoaaGreatDoor
