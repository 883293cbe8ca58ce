/- Laid together: IntRows, NvCopy, NvRows, NvRead, NvEq, NvTwo, NvStand, NvWith, NvTell, NvNewI, NvApp, NvMake. -/
import Derived.Test.YtphabggmbdpibaaDoorProg
import Derived.WalkKit
import Derived.WalkSpells
import Derived.WalkLawsBesides
import Derived.Lib.Hide
import Derived.Deep.MidRow
import Derived.Laws.CopyOwn
import Derived.Deep.QuietTactic
import Derived.BigQuiet
import Derived.RegionTactic
import Derived.Test.YtphabggmbdpibaaDoorBase
import Derived.Deep.RegionHeld3
import Derived.Deep.WholeRow

namespace Go.Proofs.YtphabggmbdpibaaDoor
open Go.RowKit
open Go.Lib (hid)

/-- Integers as they lie in a row. -/
def ints (l : List Int) : List Value := l.map (Value.int .i64)

theorem ints_len (l : List Int) : (ints l).length = l.length := by simp [ints]

theorem ints_at (l : List Int) (i : Nat) (h : i < l.length) : (ints l)[i]? = some (.int .i64 l[i]) := by simp [ints, h]

theorem ints_append (a b : List Int) : ints (a ++ b) = ints a ++ ints b := by simp [ints]

theorem ints_one (l : List Int) : ∀ v ∈ ints l, v.oneCell' = true := by
  intro v hv
  obtain ⟨x, _, rfl⟩ := List.mem_map.1 hv
  rfl

/-- All numbers of a list lie in 0 .. a thousand million. -/
def Numb (l : List Int) : Prop := ∀ x ∈ l, 0 ≤ x ∧ x ≤ 1000000000

/-- The same as a test. -/
def numbB (l : List Int) : Bool := l.all fun x => decide (0 ≤ x ∧ x ≤ 1000000000)

theorem numbB_iff {l : List Int} : numbB l = true ↔ Numb l := by simp [numbB, Numb]

theorem numbB_no {l : List Int} (h : ¬ Numb l) : numbB l = false := by
  cases hb : numbB l with
  | false => rfl
  | true => exact absurd (numbB_iff.1 hb) h

theorem numb_sum {l : List Int} (h : Numb l) : 0 ≤ l.sum ∧ l.sum ≤ l.length * 1000000000 := by
  induction l with
  | nil => simp
  | cons a l ih =>
    have h1 := h a (by simp)
    have h2 := ih (fun x hx => h x (by simp [hx]))
    simp only [List.sum_cons, List.length_cons]
    omega

theorem numb_take {l : List Int} (h : Numb l) (i : Nat) : Numb (l.take i) := fun x hx => h x (List.mem_of_mem_take hx)

theorem numb_succ (l : List Int) (i : Nat) (h : i < l.length) : Numb (l.take (i + 1)) ↔ Numb (l.take i) ∧ 0 ≤ l[i] ∧ l[i] ≤ 1000000000 := by
  rw [List.take_succ_eq_append_getElem h]
  constructor
  · intro hn
    exact ⟨fun x hx => hn x (List.mem_append_left _ hx), hn l[i] (List.mem_append_right _ (List.mem_singleton.2 rfl))⟩
  · intro hn x hx
    rcases List.mem_append.1 hx with hx | hx
    · exact hn.1 x hx
    · obtain rfl := List.mem_singleton.1 hx; exact hn.2

theorem sum_take (l : List Int) (i : Nat) (h : i < l.length) : (l.take (i + 1)).sum = (l.take i).sum + l[i] := by
  rw [List.take_succ_eq_append_getElem h, List.sum_append]; simp

/-- 'a[i]' of an array of integers by value. -/
theorem run_index_ints {P : Program} (t e : TypeId) (l : List Int) (i : Nat) (hi : i < l.length) (hu : P.underlying t = some (.array l.length e)) (ha : ∀ w, (isAgg e).run P w = .ok false w) (hz : ∀ w, (sizeOf e).run P w = .ok 1 w) (w : World) :
    (Instr.index t (.agg (ints l).toArray) (.int .i64 i)).run P w = .ok (.int .i64 l[i]) w := by
  have h1 : (0 ≤ (i : Int) ∧ (i : Int) < (l.length : Int)) := by omega
  have h2 := ints_at l i hi
  simp [Instr.index, run_underlying hu, asIntOf, Sem.run_bind, part, ha, hz, hi, h2]
end Go.Proofs.YtphabggmbdpibaaDoor

namespace Go.Proofs.YtphabggmbdpibaaDoor
open Go.RowKit
open Go.Lib (hid)

/-- A copy's cells: its check, its numbers, its count. -/
def nvc (k : Int) (ns : List Int) (c : Int) : Array Value := (Value.int .i64 k :: (ints ns ++ [Value.int .i64 c])).toArray

theorem nvc_last (k c : Int) (ns : List Int) (hn : ns.length = 20) : (nvc k ns c)[21]? = some (.int .i64 c) := by
  have e : (nvc k ns c)[21]? = (Value.int .i64 k :: (ints ns ++ [Value.int .i64 c]))[21]? := by unfold nvc; simp
  rw [e, List.getElem?_cons_succ, List.getElem?_append_right (by simp [ints]; omega)]
  simp [ints, hn]

theorem nvc_range (k c : Int) (ns : List Int) (b : Nat) (t : TypeId) (fr : Nat × Nat) (w : World) (hb : w.heap[b]? = some (.cells (nvc k ns c) t fr)) : w.rangeAt b 1 (ints ns) := fun j v hv => by
  rw [cell_of_row w b (1 + j) _ t fr hb]
  have e : (nvc k ns c)[1 + j]? = (Value.int .i64 k :: (ints ns ++ [Value.int .i64 c]))[1 + j]? := by unfold nvc; simp
  rw [e, Nat.add_comm 1 j, List.getElem?_cons_succ, List.getElem?_append_left (List.getElem?_eq_some_iff.1 hv).1]
  exact hv

theorem nvc_size (k c : Int) (ns : List Int) (hn : ns.length = 20) : (nvc k ns c).size = 22 := by unfold nvc; simp [ints]; omega

theorem nvc_set (k k' c : Int) (ns : List Int) : (nvc k ns c).setIfInBounds 0 (.int .i64 k') = nvc k' ns c := by unfold nvc; simp

theorem nvc_one (k c : Int) (ns : List Int) : (nvc k ns c).all (·.oneCell') = true := by
  refine all_oneCell_toArray fun v hv => ?_
  rcases List.mem_cons.1 hv with rfl | hv
  · rfl
  · rcases List.mem_append.1 hv with hv | hv
    · exact ints_one ns v hv
    · obtain rfl := List.mem_singleton.1 hv; rfl

theorem nvc_first (k c : Int) (ns : List Int) : (nvc k ns c)[0]? = some (.int .i64 k) := by unfold nvc; simp

set_option maxRecDepth 20000 in
theorem checked_calls (k c : Int) (ns : List Int) (hn : ns.length = 20) (hb : Numb ns) (hc : 0 ≤ c ∧ c ≤ 1000000001) (w : World) :
    Calls Tryd.prog 153 #[.agg (nvc k ns c)] w fun e w' => e = .returned (.agg (nvc (1 + (c + ns.sum) % 999983) ns c)) ∧ Below w.heap.size w w' := by
  have h21 := nvc_last k c ns hn
  have HN := hid hb
  clear hb
  go_enter Tryd.func153, Tryd.ntmps153
  go_wp2_with (refine wpList_load_mid rfl 164 _ rfl w.heap.size 1 rfl (ints ns) _ (nvc_range k c ns w.heap.size 166 (0, 0) _ (heap_alloc2_old _ _ _)) Tryd.underlying164 rfl ?_ ?_; (· show _ = some (ints ns).length; rw [show (ints ns).length = 20 by simp [ints, hn]]; kernel_rfl))
  go_loop [3, 10] (fun sv iv => ∃ i : Nat, ∃ t : Int, i ≤ 20 ∧ iv = .int .i64 i ∧ sv = .int .i64 t ∧ 0 ≤ t ∧ t ≤ 30000000000 ∧ Hid (t = c + (ns.take i).sum)) (fun _ iv => 20 - (RowKit.intOf iv).toNat)
  case atStart => exact ⟨0, c, by omega, rfl, rfl, by omega, by omega, hid (by simp)⟩
  case round =>
    obtain ⟨i, t, hi, rfl, rfl, ht0, ht1, HT⟩ := hrel
    by_cases hlt : i < 20
    · have hil : i < ns.length := by omega
      have hy := HN.out ns[i] (List.getElem_mem hil)
      have HS := hid (sum_take ns i hil)
      have hs := numb_sum (numb_take HN.out (i + 1))
      rw [HS.out, List.length_take] at hs
      have hbd : 0 ≤ t + ns[i] ∧ t + ns[i] ≤ 30000000000 := by rw [HT.out]; omega
      have hix := fun W => run_index_ints (P := Tryd.prog) 164 2 ns i hil (by rw [hn]; exact Tryd.underlying164) Tryd.isAgg2 Tryd.sizeOf2 W
      generalize ns[i] = x at *
      clear hs
      go_wp2
      go_round
      case rel => exact ⟨i + 1, t + x, by omega, by go_num, rfl, by omega, by omega, hid (by rw [HS.out, HT.out]; omega)⟩
      case measure => simp [RowKit.intOf]; omega
    · have hie : i = 20 := by omega
      subst hie
      have h0 := nvc_first k c ns
      have hset := fun k' => nvc_set k k' c ns
      go_wp2_with (first | (refine wpList_load_row rfl 166 _ rfl w.heap.size rfl 166 (nvc (1 + t % 999983) ns c) (0, 0) _ (heap_alloc2_old _ _ _) Tryd.underlying166 rfl ?_ ?_; (· rw [nvc_size _ c ns hn]; kernel_rfl)) | (refine wpList_store_row rfl 166 _ _ rfl (w.heap.size + 1) (nvc (1 + t % 999983) ns c) rfl rfl 166 _ (heap_alloc2_new _ _ _) ?_ ?_ (nvc_one _ c ns) ?_; (· rw [nvc_size _ c ns hn]; kernel_rfl); (· rw [nvc_size _ c ns hn]; rfl)))
      refine bodyPost_ret (v := .agg (nvc (1 + t % 999983) ns c)) (results_cell_row (p := 2) Tryd.results153 _ _ (w.heap.size + 1) 166 _ (0, 0) _ rfl (setRow_heap _ _ _ _ _ _ (heap_alloc2_new _ _ _)) Tryd.underlying166 rfl (by rw [nvc_size _ c ns hn]; kernel_rfl)) rfl ⟨?_, ?_⟩
      · rw [HT.out, List.take_of_length_le (by omega)]
      · exact below_setRow (((Below.refl _ _).alloc (Nat.le_refl _) _).alloc (by simp) _) (by omega) _
end Go.Proofs.YtphabggmbdpibaaDoor

namespace Go.Proofs.YtphabggmbdpibaaDoor
open Go.RowKit
open Go.Lib (hid)

/-- A slice of integers, wherever it begins in its block. -/
def RowIn (w : World) (a : Value) (l : List Int) : Prop :=
  ∃ p c, a = .slice p l.length c ∧ l.length ≤ c ∧ (l ≠ [] → ∃ g o, p = some ⟨g, o, none⟩ ∧ g < w.heap.size ∧ ∀ j (h : j < l.length), w.cell? ⟨g, o + j, none⟩ = some (.int .i64 l[j]))

theorem RowIn.on {w w' : World} {a : Value} {l : List Int} (h : RowIn w a l) (hb : Below w.heap.size w w') : RowIn w' a l := by
  obtain ⟨p, c, rfl, hc, hp⟩ := h
  refine ⟨p, c, rfl, hc, fun hne => ?_⟩
  obtain ⟨g, o, rfl, hg, hcell⟩ := hp hne
  exact ⟨g, o, rfl, Nat.lt_of_lt_of_le hg hb.size, fun j hj => by rw [hb.cell (p := ⟨g, o + j, none⟩) hg]; exact hcell j hj⟩

theorem row_in_own {w : World} {base : Nat} {a : Value} {l : List Int} (h : w.ownsRow base 2 1 a l.length (ints l)) : RowIn w a l := by
  rcases h.2 with ⟨hv, hz⟩ | ⟨g, cap, cur, e1, hbg, hg, hnc, _⟩
  · have hl : l = [] := List.eq_nil_of_length_eq_zero hz
    subst hl
    exact ⟨none, 0, hv, Nat.le_refl _, fun h => absurd rfl h⟩
  · refine ⟨_, cap, e1, hnc, fun _ => ⟨g, 0, rfl, (Array.getElem?_eq_some_iff.1 hg).1, fun j hj => ?_⟩⟩
    have := h.cells (g := g) (by rw [e1]; rfl) j (.int .i64 l[j]) (ints_at l j hj)
    rw [Addr.add_mid] at this
    exact this

theorem areNumbers_calls (l : List Int) (hn : l.length ≤ 1048576) (a : Value) (w : World) (ha : RowIn w a l) :
    Calls Tryd.prog 152 #[a] w fun e w' => e = .returned (.bool (numbB l)) ∧ w' = w := by
  obtain ⟨p, c, rfl, hc, hp⟩ := ha
  have HP := hid hp
  clear hp
  go_enter Tryd.func152, Tryd.ntmps152
  go_wp2
  go_loop [7] (fun iv => ∃ i : Nat, i ≤ l.length ∧ iv = .int .i64 i ∧ Hid (Numb (l.take i))) (fun iv => l.length - (RowKit.intOf iv).toNat)
  case atStart => exact ⟨0, Nat.zero_le _, rfl, hid (fun x hx => by simp at hx)⟩
  case round =>
    obtain ⟨i, hi, rfl, HN⟩ := hrel
    by_cases hlt : i < l.length
    · obtain ⟨g, o, rfl, hg, hcell⟩ := HP.out (fun h => by rw [h] at hlt; cases hlt)
      have hc1 := hcell i hlt
      have HS := hid (numb_succ l i hlt)
      have HI := hid (List.getElem_mem hlt)
      clear hcell
      generalize l[i] = x at *
      by_cases hx0 : x < 0
      · go_wp2
        go_ret
        refine ⟨?_, rfl⟩
        rw [numbB_no (fun h => by have := h x HI.out; omega)]; rfl
      · by_cases hx1 : x > 1000000000
        · go_wp2
          go_ret
          refine ⟨?_, rfl⟩
          rw [numbB_no (fun h => by have := h x HI.out; omega)]; rfl
        · go_wp2
          go_round
          case rel => exact ⟨i + 1, by omega, by go_num, hid (HS.out.2 ⟨HN.out, by omega, by omega⟩)⟩
          case measure => simp [RowKit.intOf]; omega
    · have hie : i = l.length := by omega
      subst hie
      go_wp2
      go_ret
      refine ⟨?_, rfl⟩
      have := HN.out
      rw [List.take_of_length_le (Nat.le_refl _)] at this
      rw [numbB_iff.2 this]
      rfl

/-- Can an Nv of this size keep them? -/
def ValsP (l : List Int) (size : Int) : Prop := 1 ≤ size ∧ size ≤ 20 ∧ (l.length : Int) = size ∧ Numb l

/-- The same as a test. -/
def valsB (l : List Int) (size : Int) : Bool := decide (1 ≤ size ∧ size ≤ 20 ∧ (l.length : Int) = size) && numbB l

theorem valsB_iff {l : List Int} {size : Int} : valsB l size = true ↔ ValsP l size := by simp [valsB, ValsP, numbB_iff, and_assoc]

theorem valsB_no {l : List Int} {size : Int} (h : ¬ ValsP l size) : valsB l size = false := by
  cases hb : valsB l size with
  | false => rfl
  | true => exact absurd (valsB_iff.1 hb) h

theorem areValues_calls (l : List Int) (hn : l.length ≤ 1048576) (size : Int) (a : Value) (w : World) (ha : RowIn w a l) :
    Calls Tryd.prog 118 #[a, .int .i64 size] w fun e w' => e = .returned (.bool (valsB l size)) ∧ w' = w := by
  have HA := hid ha
  obtain ⟨p, c, rfl, hc, _⟩ := ha
  by_cases h1 : 1 ≤ size
  · by_cases h2 : size ≤ 20
    · by_cases h3 : (l.length : Int) = size
      · have h3b : ((l.length : Int) == size) = true := by rw [beq_iff_eq]; exact h3
        have e : valsB l size = numbB l := by simp [valsB, h1, h2, h3]
        rw [e]
        clear e
        go_enter Tryd.func118, Tryd.ntmps118
        go_wp2_with (go_at_call 152; refine (areNumbers_calls l hn _ _ HA.out).mono ?_; rintro e w1 ⟨rfl, rfl⟩)
        go_ret
        exact ⟨rfl, rfl⟩
      · have h3b : ((l.length : Int) == size) = false := by rw [beq_eq_false_iff_ne]; exact h3
        rw [valsB_no (fun h => h3 h.2.2.1)]
        go_enter Tryd.func118, Tryd.ntmps118
        go_wp2
        go_ret
        exact ⟨rfl, rfl⟩
    · rw [valsB_no (fun h => h2 h.2.1)]
      go_enter Tryd.func118, Tryd.ntmps118
      go_wp2
      go_ret
      exact ⟨rfl, rfl⟩
  · rw [valsB_no (fun h => h1 h.1)]
    go_enter Tryd.func118, Tryd.ntmps118
    go_wp2
    go_ret
    exact ⟨rfl, rfl⟩

theorem words_calls (size : Int) (h1 : 1 ≤ size) (h2 : size ≤ 20) (w : World) :
    Calls Tryd.prog 119 #[.int .i64 size] w fun e w' => e = .returned (.int .i64 (size + 2)) ∧ w' = w := by
  go_enter Tryd.func119, Tryd.ntmps119
  go_wp2
  go_ret
  exact ⟨rfl, rfl⟩

/-- Is an Nv formed? -/
def FormP (size : Int) (ws : List Int) : Prop := 1 ≤ size ∧ size ≤ 20 ∧ (ws.length : Int) = 2 * (size + 2) ∧ Numb ws

/-- The same as a test. -/
def formB (size : Int) (ws : List Int) : Bool := decide (1 ≤ size ∧ size ≤ 20 ∧ (ws.length : Int) = 2 * (size + 2)) && numbB ws

theorem formB_iff {size : Int} {ws : List Int} : formB size ws = true ↔ FormP size ws := by simp [formB, FormP, numbB_iff, and_assoc]

theorem formB_no {size : Int} {ws : List Int} (h : ¬ FormP size ws) : formB size ws = false := by
  cases hb : formB size ws with
  | false => rfl
  | true => exact absurd (formB_iff.1 hb) h

theorem formed_calls (size : Int) (ws : List Int) (hn : ws.length ≤ 1048576) (a : Value) (w : World) (ha : RowIn w a ws) :
    Calls Tryd.prog 166 #[.agg #[.int .i64 size, a]] w fun e w' => e = .returned (.bool (formB size ws)) ∧ Below w.heap.size w w' := by
  have HA := hid ha
  obtain ⟨p, c, rfl, hc, _⟩ := ha
  by_cases h1 : 1 ≤ size
  · have d1 : decide (size ≥ 1) = true := decide_eq_true h1
    by_cases h2 : size ≤ 20
    · have d2 : decide (size ≤ 20) = true := decide_eq_true h2
      by_cases h3 : (ws.length : Int) = 2 * (size + 2)
      · have h3b : ((ws.length : Int) == 2 * (size + 2)) = true := by rw [beq_iff_eq]; exact h3
        have e : formB size ws = numbB ws := by simp [formB, h1, h2, h3]
        rw [e]
        clear e
        have HAN := hid (fun W hW => areNumbers_calls ws hn _ W (HA.out.on hW))
        go_enter Tryd.func166, Tryd.ntmps166
        go_wp2
        go_quiet ((first | (go_at_call 119; exact Calls.quiet_of_same (words_calls size h1 h2 _)) | (go_at_call 152; exact Calls.quiet_of_same (HAN.out _ (by exact drewN_below ((Below.refl _ _).alloc (Nat.le_refl _) _) _)))))
        go_wp2
        go_ret
        exact ⟨rfl, drewN_below ((Below.refl _ _).alloc (Nat.le_refl _) _) _⟩
      · have h3b : ((ws.length : Int) == 2 * (size + 2)) = false := by rw [beq_eq_false_iff_ne]; exact h3
        rw [formB_no (fun h => h3 h.2.2.1)]
        go_enter Tryd.func166, Tryd.ntmps166
        go_wp2
        go_quiet ((go_at_call 119; exact Calls.quiet_of_same (words_calls size h1 h2 _)))
        go_wp2
        go_ret
        exact ⟨rfl, drewN_below ((Below.refl _ _).alloc (Nat.le_refl _) _) _⟩
    · have d2 : decide (size ≤ 20) = false := decide_eq_false h2
      rw [formB_no (fun h => h2 h.2.1)]
      go_enter Tryd.func166, Tryd.ntmps166
      go_wp2
      go_quiet (fail)
      go_wp2
      go_ret
      exact ⟨rfl, drewN_below ((Below.refl _ _).alloc (Nat.le_refl _) _) _⟩
  · have d1 : decide (size ≥ 1) = false := decide_eq_false h1
    rw [formB_no (fun h => h1 h.1)]
    go_enter Tryd.func166, Tryd.ntmps166
    go_wp2
    go_quiet (fail)
    go_wp2
    go_ret
    exact ⟨rfl, drewN_below ((Below.refl _ _).alloc (Nat.le_refl _) _) _⟩
end Go.Proofs.YtphabggmbdpibaaDoor

namespace Go.Proofs.YtphabggmbdpibaaDoor
open Go.RowKit
open Go.Lib (hid)

/-! The operations on a copy as a whole, under names of their own: so that the walk does not open them into 22 cells. -/
def buildC (parts : Array (Nat × Value)) : Sem Value := Instr.build 166 parts
def storeC (p v : Value) : Sem Unit := Instr.storeAt 166 p v
def loadC (p : Value) : Sem Value := Instr.loadAt 166 p
theorem buildC_eq : Instr.build 166 = buildC := rfl
theorem storeC_eq : Instr.storeAt 166 = storeC := rfl
theorem loadC_eq : Instr.loadAt 166 = loadC := rfl

theorem storeC_new (W : World) (c' V : Array Value) (h' : c'.size = 22) (hV : V.size = 22) (h1 : V.all (·.oneCell') = true) : (storeC (.pointer (some ⟨W.heap.size, 0, none⟩)) (.agg V)).run Tryd.prog (W.alloc (.cells c' 166)) = .ok () (W.alloc (.cells V 166)) :=
  run_storeAt_new W _ _ _ (by rw [hV]; kernel_rfl) (by rw [hV]; exact h') h1

theorem storeC_new2 (W : World) (O : Obj) (c' V : Array Value) (h' : c'.size = 22) (hV : V.size = 22) (h1 : V.all (·.oneCell') = true) : (storeC (.pointer (some ⟨W.heap.size + 1, 0, none⟩)) (.agg V)).run Tryd.prog ((W.alloc O).alloc (.cells c' 166)).drew = .ok () ((W.alloc O).alloc (.cells V 166)).drew := by
  have h := storeC_new (W.alloc O).drew c' V h' hV h1
  have e : (W.alloc O).drew.heap.size = W.heap.size + 1 := by simp
  rw [e] at h
  exact h

def noughts (n : Nat) : List Int := List.replicate n 0

theorem noughts_len (n : Nat) : (noughts n).length = n := by simp [noughts]

theorem built_ends (x0 x1 : Int) : Tryd.prog.built 166 #[(0, Value.int .i64 x0), (2, Value.int .i64 x1)].toList = some (nvc x0 (noughts 20) x1) := by kernel_rfl

theorem buildC_ends (x0 x1 : Int) (W : World) : (buildC #[(0, .int .i64 x0), (2, .int .i64 x1)]).run Tryd.prog W = .ok (.agg (nvc x0 (noughts 20) x1)) W := run_build W _ _ _ (built_ends x0 x1)

/-- The numbers of a copy, with noughts behind them. -/
def padN (l : List Int) : List Int := (l.drop 1).take (l.length - 2) ++ noughts (22 - l.length)

/-- A copy as the program holds it. -/
def copyV (l : List Int) : Array Value := nvc (l.getD 0 0) (padN l) (l.getD (l.length - 1) 0)

theorem splice_nvc (x0 x1 : Int) (mid : List Int) (n1 : Nat) (hml : mid.length = n1 - 1) (h2 : 1 ≤ n1) (h22 : n1 ≤ 21) : (splice (Value.int .i64 x0 :: (ints (noughts 20) ++ [Value.int .i64 x1])) 1 (ints mid)).toArray = nvc x0 (mid ++ noughts (20 - mid.length)) x1 := by
  have hd : (ints (noughts 20)).drop mid.length = ints (noughts (20 - mid.length)) := by unfold ints noughts; rw [List.map_replicate, List.map_replicate, List.drop_replicate]
  unfold splice nvc
  rw [List.take_succ_cons, List.take_zero, Nat.add_comm 1, List.drop_succ_cons, ints_len, List.drop_append_of_le_length (by rw [ints_len, noughts_len]; omega), hd, ints_append]
  simp

attribute [local go_sem ↓] buildC_eq storeC_eq loadC_eq

set_option maxRecDepth 20000 in
set_option maxHeartbeats 1000000 in
theorem readCopy_calls (l : List Int) (n1 : Nat) (hl : l.length = n1 + 1) (h2 : 1 ≤ n1) (h22 : n1 ≤ 21) (a : Value) (w : World) (ha : RowIn w a l) :
    Calls Tryd.prog 181 #[a] w fun e w' => e = .returned (.agg (copyV l)) ∧ Below w.heap.size w w' := by
  obtain ⟨p, c, rfl, hc, hp⟩ := ha
  obtain ⟨g, o, rfl, hg, hcell⟩ := hp (fun h => by rw [h] at hl; simp at hl)
  have hx0 := hcell 0 (by omega)
  have hx1 := hcell n1 (by omega)
  have HC := hid hcell
  have e0 : l[0] = l.getD 0 0 := by simp [List.getD, show 0 < l.length by omega]
  have e1 : l[n1] = l.getD (l.length - 1) 0 := by simp [List.getD, hl]
  rw [e0] at hx0
  rw [e1] at hx1
  unfold copyV
  generalize hk0 : l.getD 0 0 = x0 at *
  generalize hk1 : l.getD (l.length - 1) 0 = x1 at *
  rw [Nat.add_zero] at hx0
  rw [hl] at hc ⊢
  clear hcell e0 e1
  have b1 : (0 : Int) ≤ (n1 : Int) := by omega
  have b2 : (n1 : Int) < (n1 : Int) + 1 := by omega
  have hbuild := buildC_ends x0 x1
  have hst := fun W O c' h' => storeC_new2 W O c' (nvc x0 (noughts 20) x1) h' (nvc_size _ _ _ (noughts_len 20)) (nvc_one _ _ _)
  obtain ⟨mid, hmid⟩ : ∃ mid, mid = (l.drop 1).take (n1 - 1) := ⟨_, rfl⟩
  have hml : mid.length = n1 - 1 := by rw [hmid]; simp; omega
  have hcn : (ints mid).length = Nat.min (n1 - 1) 20 := by rw [ints_len, hml]; exact (Nat.min_eq_left (by omega)).symm
  have hcf : 1 + (ints mid).length ≤ (Value.int .i64 x0 :: (ints (noughts 20) ++ [Value.int .i64 x1])).length := by simp [ints_len, noughts_len]; omega
  have HCP : Hid (∀ W : World, Below w.heap.size w W → ∀ j v, (ints mid)[j]? = some v → W.cell? ((⟨g, o + 1, none⟩ : Addr).add j) = some v) := hid fun W hW j v hv => by
    have hj : j < mid.length := by rw [← ints_len]; exact (List.getElem?_eq_some_iff.1 hv).1
    rw [Addr.add_mid, hW.cell (p := ⟨g, o + 1 + j, none⟩) hg]
    rw [ints_at mid j hj] at hv
    injection hv with hv
    rw [← hv, show o + 1 + j = o + (1 + j) by omega, HC.out (1 + j) (by omega)]
    have : mid[j]? = l[1 + j]? := by rw [hmid, List.getElem?_take, if_pos (by omega), List.getElem?_drop]
    rw [List.getElem?_eq_getElem hj, List.getElem?_eq_getElem (by omega)] at this
    injection this with this
    rw [this]
  have HMID := hid hmid
  clear hmid hp
  have b3 : (1 : Int) ≤ (n1 : Int) := by omega
  have b4 : (n1 : Int) ≤ (c : Int) := by omega
  go_enter Tryd.func181, Tryd.ntmps181
  go_wp2
  go_region_held3 (fun w' => w'.cell? ⟨g, o, none⟩ = some (.int .i64 x0) ∧ w'.cell? ⟨g, o + n1, none⟩ = some (.int .i64 x1)) (go_keep) (fail)
  go_wp2
  go_region_held3 (fun _ => True) (trivial) ((refine step_copy_splice rfl (.tmp 17) (.tmp 20) 22 22 rfl 2 Tryd.underlying22 (by kernel_rfl) (some ⟨w.heap.size + 1, 1, none⟩) (some ⟨g, o + 1, none⟩) 20 20 (n1 - 1) (c - 1) (by rfl) (by simp [Act.eval, show ¬ c = 1 by omega]) (w.heap.size + 1) 1 (Value.int .i64 x0 :: (ints (noughts 20) ++ [Value.int .i64 x1])) 166 (heap_alloc2_new w _ _) (ints mid) hcn (fun _ => ⟨rfl, _, rfl, HCP.out _ (Below.drew (Below.drew (((Below.refl _ _).alloc (Nat.le_refl _) _).alloc (by simp) _)))⟩) hcf (ints_one mid) (w.heap.size + 1) _ (Below.refl _ _) (Nat.le_refl _) ?_; intro w4 hg4 hb4))
  have HV := hid (splice_nvc x0 x1 mid n1 hml h2 h22)
  have hz4 := hb4.size
  have hw4 : w4.heap[w.heap.size]? = _ := (hb4.block w.heap.size (Nat.lt_succ_self _)).trans (heap_alloc2_old w _ _)
  have HW4 := hid hw4
  have HR := hid hg4.out
  have HB := hid hb4
  clear hb4 hw4 hg4
  have hsz := nvc_size x0 x1 (mid ++ noughts (20 - mid.length)) (by rw [List.length_append, noughts_len]; omega)
  rw [HV.out] at HR
  go_wp2_with (first | (refine wpList_load_row rfl 166 _ rfl (w.heap.size + 1) rfl 166 _ (0, 0) _ HR.out Tryd.underlying166 rfl ?_ ?_; (· rw [hsz]; kernel_rfl)) | (refine wpList_store_row rfl 166 _ _ rfl w.heap.size _ rfl rfl 166 _ HW4.out ?_ ?_ (nvc_one _ _ _) ?_; (· rw [hsz]; kernel_rfl); (· rw [hsz]; rfl)))
  have hpad : padN l = mid ++ noughts (20 - (n1 - 1)) := by
    unfold padN
    rw [hl, show n1 + 1 - 2 = n1 - 1 by omega, ← HMID.out, show 22 - (n1 + 1) = 20 - (n1 - 1) by omega]
  rw [hml] at hsz
  refine bodyPost_ret (v := .agg (nvc x0 (mid ++ noughts (20 - (n1 - 1))) x1)) (results_cell_row (p := 2) Tryd.results181 _ _ w.heap.size 166 _ (0, 0) _ rfl (setRow_heap _ _ _ _ _ _ HW4.out) Tryd.underlying166 rfl (by rw [hsz]; kernel_rfl)) rfl ⟨?_, ?_⟩
  · rw [hpad]
  · refine below_setRow ?_ (Nat.le_refl _) _
    refine Below.trans ?_ (HB.out.mono (Nat.le_succ _))
    exact Below.drew (Below.drew (((Below.refl _ _).alloc (Nat.le_refl _) _).alloc (by simp) _))
end Go.Proofs.YtphabggmbdpibaaDoor

namespace Go.Proofs.YtphabggmbdpibaaDoor
open Go.RowKit
open Go.Lib (hid)

theorem part_int (l : List Int) (i : Nat) (hi : i < l.length) (w : World) : (part 2 (ints l).toArray i).run Tryd.prog w = .ok (.int .i64 l[i]) w := by
  have h2 := ints_at l i hi
  simp [part, Sem.run_bind, Tryd.isAgg2, h2]

theorem eq_arr (d : Nat) (l : List Int) (hn : l.length = 20) (w : World) : (Op.equalIn (d + 2) 164 (.agg (ints l).toArray) (.agg (ints l).toArray)).run Tryd.prog w = .ok true w := by
  have key : ∀ m s, s + m ≤ l.length → (forIn (m := Sem) (List.range' s m) ((none, ()) : Option Bool × Unit) fun i _ => do
      let a ← part 2 (ints l).toArray i
      let b ← part 2 (ints l).toArray i
      let r ← Op.equalIn (d + 1) 2 a b
      if r = false then pure (ForInStep.done (some false, ())) else pure (ForInStep.yield (none, ()))).run Tryd.prog w = .ok (none, ()) w := by
    intro m
    induction m with
    | zero => intro s _; simp
    | succ m ih =>
      intro s hs
      have hp := part_int l s (by omega) w
      have hq := run_equalIn_int (P := Tryd.prog) w d 2 .i64 .i64 l[s] l[s] Tryd.underlying2
      rw [List.range'_succ, List.forIn_cons, Sem.run_bind]
      simp only [Sem.run_bind, hp, hq, Result.andThen_ok, beq_self_eq_true, Bool.true_eq_false, if_false, Sem.run_pure]
      exact ih (s + 1) (by omega)
  have hu := Tryd.underlying164
  have hk := key 20 0 (by omega)
  rw [Op.equalIn]
  simp only [Sem.run_bind, run_underlying hu, Result.andThen_ok, Tryd.sizeOf2, Nat.mul_one]
  simp [hk]

theorem nvc_mid (k c : Int) (ns : List Int) (hn : ns.length = 20) : (nvc k ns c).extract 1 21 = (ints ns).toArray := by
  unfold nvc
  apply Array.ext'
  rw [List.extract_toArray]
  simp [ints, hn]

def eqC (x y : Value) : Sem Value := binOp .eql 166 x y
theorem eqC_eq : binOp .eql 166 = eqC := rfl

theorem eqC_run (k k' c : Int) (ns : List Int) (hn : ns.length = 20) (w : World) : (eqC (.agg (nvc k ns c)) (.agg (nvc k' ns c))).run Tryd.prog w = .ok (.bool (k == k')) w := by
  have q1 : ∀ (a b : Int) (W : World), (Op.equalIn 9999 2 (.int .i64 a) (.int .i64 b)).run Tryd.prog W = .ok (a == b) W := fun a b W => run_equalIn_int (P := Tryd.prog) W 9998 2 .i64 .i64 a b Tryd.underlying2
  have q2 : ∀ W, (Op.equalIn 9999 164 (.agg (ints ns).toArray) (.agg (ints ns).toArray)).run Tryd.prog W = .ok true W := fun W => eq_arr 9997 ns hn W
  have h0 := fun k => nvc_first k c ns
  have h1 := fun k => nvc_last k c ns hn
  have h2 := fun k => nvc_mid k c ns hn
  unfold eqC
  simp [go_sem, h0, h1, h2, q1, q2]
  cases hk : k == k'
  · simpa using hk
  · simpa using hk

theorem below_step {B : Nat} {a b c : World} (h : Below B a b) (hB : B ≤ a.heap.size) (k : Below b.heap.size b c) : Below B a c := h.trans (k.mono (Nat.le_trans hB h.size))

/-- Is a copy whole? -/
def wholeB (k : Int) (ns : List Int) (c : Int) : Bool := decide (1 ≤ c) && (k == 1 + (c + ns.sum) % 999983)

attribute [local go_sem ↓] buildC_eq storeC_eq loadC_eq eqC_eq

theorem loadC_row (V : Array Value) (hV : V.size = 22) (b : Nat) (W : World) (fr : Nat × Nat) (h : W.heap[b]? = some (.cells V 166 fr)) : (loadC (.pointer (some ⟨b, 0, none⟩))).run Tryd.prog W = .ok (.agg V) W := by
  unfold loadC
  simp only [Instr.loadAt, Instr.sureAddr, Sem.run_bind, Sem.run_pure, Result.andThen]
  exact run_loadVar_row W b _ _ V fr _ h Tryd.underlying166 rfl (by rw [hV]; kernel_rfl)

set_option maxRecDepth 20000 in
set_option maxHeartbeats 1000000 in
theorem whole_calls (k c : Int) (ns : List Int) (hn : ns.length = 20) (hb : Numb ns) (hc : 0 ≤ c ∧ c ≤ 1000000000) (w : World) :
    Calls Tryd.prog 182 #[.agg (nvc k ns c)] w fun e w' => e = .returned (.bool (wholeB k ns c)) ∧ Below w.heap.size w w' := by
  have h21 := nvc_last k c ns hn
  have HN := hid hb
  clear hb
  by_cases h1 : 1 ≤ c
  · have d1 : decide (c ≥ 1) = true := decide_eq_true h1
    have e : wholeB k ns c = (k == 1 + (c + ns.sum) % 999983) := by simp [wholeB, h1]
    rw [e]
    clear e
    have heq := fun k' => eqC_run k k' c ns hn
    have hload : ∀ W : World, Below (w.heap.size + 1) (w.alloc (.cells (nvc k ns c) 166)) W → (loadC (.pointer (some ⟨w.heap.size, 0, none⟩))).run Tryd.prog W = .ok (.agg (nvc k ns c)) W := fun W hW => loadC_row _ (nvc_size _ _ _ hn) _ W (0, 0) ((hW.block _ (Nat.lt_succ_self _)).trans (heap_alloc_new _ _))
    have hcell : ∀ W : World, Below (w.heap.size + 1) (w.alloc (.cells (nvc k ns c) 166)) W → W.cell? ⟨w.heap.size, 21, none⟩ = some (.int .i64 c) := fun W hW => by
      rw [cell_of_row W _ 21 _ _ _ ((hW.block _ (Nat.lt_succ_self _)).trans (heap_alloc_new _ _))]; exact h21
    go_enter Tryd.func182, Tryd.ntmps182
    go_wp2_with fail
    go_region_held3 (fun w' => Below (w.heap.size + 1) (w.alloc (.cells (nvc k ns c) 166)) w') (first | exact Below.drew (Below.refl _ _) | exact below_step (by assumption) (by simp) (by assumption)) ((go_at_call 153; refine (checked_calls k c ns hn HN.out ⟨hc.1, by omega⟩ _).mono ?_; rintro e w5 ⟨rfl, hb5⟩))
    rename_i hS
    go_wp2
    go_ret
    exact ⟨rfl, ((Below.refl _ _).alloc (Nat.le_refl _) _).trans (hS.mono (Nat.le_succ _))⟩
  · have d1 : decide (c ≥ 1) = false := decide_eq_false h1
    have e : wholeB k ns c = false := by simp [wholeB, h1]
    rw [e]
    go_enter Tryd.func182, Tryd.ntmps182
    go_wp2
    go_quiet (fail)
    go_wp2
    go_ret
    exact ⟨rfl, drewN_below ((Below.refl _ _).alloc (Nat.le_refl _) _) _⟩
end Go.Proofs.YtphabggmbdpibaaDoor

namespace Go.Proofs.YtphabggmbdpibaaDoor
open Go.RowKit
open Go.Lib (hid)

def buildD (parts : Array (Nat × Value)) : Sem Value := Instr.build 213 parts
def storeD (p v : Value) : Sem Unit := Instr.storeAt 213 p v
def loadD (p : Value) : Sem Value := Instr.loadAt 213 p
theorem buildD_eq : Instr.build 213 = buildD := rfl
theorem storeD_eq : Instr.storeAt 213 = storeD := rfl
theorem loadD_eq : Instr.loadAt 213 = loadD := rfl

theorem fill_list (off : Nat) : ∀ (L : List Value) (k : Nat) (cs : Array Value), off + k + L.length ≤ cs.size → (L.zipIdx k).foldl (fun cs x => cs.setIfInBounds (off + x.2) x.1) cs = (cs.toList.take (off + k) ++ (L ++ cs.toList.drop (off + k + L.length))).toArray := by
  intro L
  induction L with
  | nil => intro k cs _; simp
  | cons v L ih =>
    intro k cs h
    simp only [List.length_cons] at h
    rw [List.zipIdx_cons, List.foldl_cons, ih (k + 1) _ (by rw [Array.size_setIfInBounds]; omega)]
    congr 1
    rw [Array.toList_setIfInBounds, show off + (k + 1) = off + k + 1 by omega, List.drop_set_of_lt (by omega), List.take_succ_eq_append_getElem (by simp; omega), List.take_set_of_le (by omega), List.getElem_set_self]
    simp only [List.length_cons, List.append_assoc, List.cons_append, List.nil_append]
    rw [show off + k + (L.length + 1) = off + k + 1 + L.length by omega]

theorem fill_array (off : Nat) (A cs : Array Value) (h : off + A.size ≤ cs.size) : A.zipIdx.foldl (fun cs x => cs.setIfInBounds (off + x.2) x.1) cs = (cs.toList.take off ++ (A.toList ++ cs.toList.drop (off + A.size))).toArray := by
  rw [← Array.foldl_toList, Array.toList_zipIdx]
  have := fill_list off A.toList 0 cs (by simpa using h)
  simpa using this

set_option maxRecDepth 20000 in
theorem built_two (A B : Array Value) (hA : A.size = 22) (hB : B.size = 22) : Tryd.prog.built 213 #[(0, Value.agg A), (1, Value.agg B)].toList = some (A ++ B) := by
  unfold Program.built
  have h1 : (Tryd.prog.info? 213).map (fun i => i.zero) = some (some (.agg (Array.replicate 44 (.int .i64 0)))) := by kernel_rfl
  have h2 : (Tryd.prog.info? 166).map (fun i => i.size) = some 22 := by kernel_rfl
  obtain ⟨i1, hi1, hz1⟩ := Option.map_eq_some_iff.1 h1
  obtain ⟨i2, hi2, hz2⟩ := Option.map_eq_some_iff.1 h2
  have f1 := fill_array 0 A (Array.replicate 44 (.int .i64 0)) (by simp; omega)
  have f2 := fill_array 22 B ((Array.replicate 44 (Value.int .i64 0)).toList.take 0 ++ (A.toList ++ (Array.replicate 44 (Value.int .i64 0)).toList.drop (0 + A.size))).toArray (by simp; omega)
  rw [← f1] at f2
  simp only [hi1, hz1, hi2, hz2, Tryd.underlying213]
  have z1 : ((Value.agg A).cells.size ≠ 22 || decide (0 * 22 + (Value.agg A).cells.size > (Array.replicate 44 (Value.int .i64 0)).size)) = false := by simp [Value.cells, hA]
  show Instr.fill _ (Array.replicate 44 (Value.int .i64 0)) _ = _
  simp only [Instr.fill, z1, Bool.false_eq_true, if_false]
  simp only [Nat.zero_mul, Nat.one_mul, Value.cells]
  rw [if_neg (by rw [f1]; simp [hA, hB]), f2]
  congr 1
  rw [f1]
  apply Array.ext'
  simp [hA, hB]

attribute [local go_sem ↓] buildD_eq storeD_eq loadD_eq loadC_eq

theorem buildD_run (A B : Array Value) (hA : A.size = 22) (hB : B.size = 22) (W : World) : (buildD #[(0, .agg A), (1, .agg B)]).run Tryd.prog W = .ok (.agg (A ++ B)) W := run_build W _ _ _ (built_two A B hA hB)

/-- The row of both copies, whatever it holds. -/
def Row2 (W : World) (b : Nat) : Prop := ∃ Z : Array Value, W.heap[b]? = some (.cells Z 213 (0, 0)) ∧ Z.size = 44

theorem storeD_run (V : Array Value) (hV : V.size = 44) (h1 : V.all (·.oneCell') = true) (b : Nat) (W : World) (h : Row2 W b) : (storeD (.pointer (some ⟨b, 0, none⟩)) (.agg V)).run Tryd.prog W = .ok () (W.setRow b V) := by
  obtain ⟨Z, hZ, hz⟩ := h
  unfold storeD
  simp only [Instr.storeAt, Instr.sureAddr, Sem.run_bind, Sem.run_pure, Result.andThen_ok]
  exact run_storeVar_row W b _ _ Z V hZ (by rw [hV]; kernel_rfl) (by rw [hV, hz]) h1

theorem row2_set {W : World} {b : Nat} (h : Row2 W b) (V : Array Value) : (W.setRow b V).heap[b]? = some (.cells V 213 (0, 0)) := by
  obtain ⟨Z, hZ, hz⟩ := h
  exact setRow_heap _ _ _ _ _ _ hZ

theorem row2_had {W : World} {b : Nat} {V : Array Value} (h : Row2 (W.setRow b V) b) : (W.setRow b V).heap[b]? = some (.cells V 213 (0, 0)) := by
  obtain ⟨Z, hZ, hz⟩ := h
  rw [hZ]
  unfold World.setRow at hZ
  simp only [Array.getElem?_modify] at hZ
  cases hg : W.heap[b]? with
  | none => rw [hg] at hZ; simp at hZ
  | some o =>
    rw [hg] at hZ
    simp at hZ
    cases o with
    | cells cs t fr => simp at hZ; obtain ⟨h1, h2, h3⟩ := hZ; rw [h1]
    | _ => simp at hZ

theorem copyV_size (l : List Int) (h2 : 2 ≤ l.length) (h22 : l.length ≤ 22) : (copyV l).size = 22 := nvc_size _ _ _ (by unfold padN; simp [noughts_len]; omega)

theorem row_take {w : World} {g o c : Nat} {ws : List Int} (h : RowIn w (.slice (some ⟨g, o, none⟩) ws.length c) ws) (n : Nat) (hn : n ≤ ws.length) : RowIn w (.slice (some ⟨g, o, none⟩) n c) (ws.take n) := by
  obtain ⟨p, c', e, hc, hp⟩ := h
  injection e with e1 e2 e3
  subst e1; subst e3
  refine ⟨_, c, by rw [List.length_take, Nat.min_eq_left hn], by rw [List.length_take]; omega, fun hne => ?_⟩
  obtain ⟨g', o', e, hg, hcell⟩ := hp (fun h => hne (by rw [h]; simp))
  refine ⟨g', o', e, hg, fun j hj => ?_⟩
  rw [List.length_take] at hj
  rw [hcell j (by omega), List.getElem_take]

theorem row_drop {w : World} {g o c : Nat} {ws : List Int} (h : RowIn w (.slice (some ⟨g, o, none⟩) ws.length c) ws) (n : Nat) (hn : n ≤ ws.length) : RowIn w (.slice (some ⟨g, o + n, none⟩) (ws.length - n) (c - n)) (ws.drop n) := by
  obtain ⟨p, c', e, hc, hp⟩ := h
  injection e with e1 e2 e3
  subst e1; subst e3
  refine ⟨_, c - n, by rw [List.length_drop], by rw [List.length_drop]; omega, fun hne => ?_⟩
  have hlt : n < ws.length := by
    apply Decidable.byContradiction
    intro h
    exact hne (List.drop_eq_nil_of_le (by omega))
  obtain ⟨g', o', e, hg, hcell⟩ := hp (fun h => by rw [h] at hlt; cases hlt)
  injection e with e
  injection e with e1 e2
  subst e1; subst e2
  refine ⟨g, o + n, rfl, hg, fun j hj => ?_⟩
  rw [List.length_drop] at hj
  rw [show o + n + j = o + (n + j) by omega, hcell (n + j) (by omega), List.getElem_drop]

theorem two_call {n : Nat} {W0 W w5 : World} (hz : n + 2 ≤ W0.heap.size) (h : Below (n + 1) W0 W ∧ Row2 W (n + 1)) (k : Below W.heap.size W w5) : Below (n + 1) W0 w5 ∧ Row2 w5 (n + 1) := by
  have hs := h.1.size
  refine ⟨h.1.trans (k.mono (by omega)), ?_⟩
  obtain ⟨Z, hZ, hz⟩ := h.2
  exact ⟨Z, (k.block (n + 1) (by omega)).trans hZ, hz⟩

theorem two_store {n : Nat} {W0 W : World} (V : Array Value) (hV : V.size = 44) (h : Below (n + 1) W0 W ∧ Row2 W (n + 1)) : Below (n + 1) W0 (W.setRow (n + 1) V) ∧ Row2 (W.setRow (n + 1) V) (n + 1) :=
  ⟨below_setRow h.1 (Nat.le_refl _) _, V, row2_set h.2 V, hV⟩

theorem words_nat (m h : Nat) (hh : h = m + 2) (h1 : 1 ≤ m) (h20 : m ≤ 20) (w : World) :
    Calls Tryd.prog 119 #[.int .i64 m] w fun e w' => e = .returned (.int .i64 h) ∧ w' = w := by
  have := words_calls m (by omega) (by omega) w
  rw [hh]
  exact this

theorem row_in_of {w W : World} {a : Value} {l : List Int} {B : Nat} (h : RowIn w a l) (hB : w.heap.size ≤ B) {W0 : World} (h0 : Below w.heap.size w W0) (hW : Below B W0 W) : RowIn W a l := h.on (h0.trans (hW.mono hB))

set_option maxRecDepth 20000 in
set_option maxHeartbeats 1000000 in
theorem copiesOf_calls (m h : Nat) (hh : h = m + 2) (h1 : 1 ≤ m) (h20 : m ≤ 20) (ws : List Int) (hws : ws.length = 2 * h) (a : Value) (w : World) (ha : RowIn w a ws) :
    Calls Tryd.prog 167 #[.agg #[.int .i64 m, a]] w fun e w' => e = .returned (.agg (copyV (ws.take h) ++ copyV (ws.drop h))) ∧ Below w.heap.size w w' := by
  have HA := hid ha
  obtain ⟨p, c, rfl, hc, hp⟩ := ha
  obtain ⟨g, o, rfl, hg, hp0⟩ := hp (fun h => by rw [h] at hws; simp at hws; omega)
  clear hp
  have hA := copyV_size (ws.take h) (by rw [List.length_take]; omega) (by rw [List.length_take]; omega)
  have hB := copyV_size (ws.drop h) (by rw [List.length_drop]; omega) (by rw [List.length_drop]; omega)
  have hbuild := buildD_run _ _ hA hB
  have HT := hid (row_take HA.out h (by omega))
  have HD := hid (row_drop HA.out h (by omega))
  have lT : (ws.take h).length = (m + 1) + 1 := by rw [List.length_take]; omega
  have lD : (ws.drop h).length = (m + 1) + 1 := by rw [List.length_drop]; omega
  have RT := hid (fun a W hW => readCopy_calls (ws.take h) (m + 1) lT (by omega) (by omega) a W hW)
  have RD := hid (fun a W hW => readCopy_calls (ws.drop h) (m + 1) lD (by omega) (by omega) a W hW)
  have o1 : (copyV (ws.take h) ++ copyV (ws.drop h)).size = 44 := by rw [Array.size_append, hA, hB]
  have o2 : (copyV (ws.take h) ++ copyV (ws.drop h)).all (·.oneCell') = true := by rw [Array.all_append, copyV, copyV, nvc_one, nvc_one]; rfl
  have hst := storeD_run _ o1 o2
  have O1 := hid o1
  clear o1 o2 lT lD hA hB
  rw [show ws.length - h = h by omega] at HD
  obtain ⟨N, hN⟩ : ∃ N, N = 2 * h := ⟨_, rfl⟩
  rw [← hN] at hws
  rw [hws] at hc ⊢
  generalize copyV (ws.take h) = A at *
  generalize copyV (ws.drop h) = B at *
  have b1 : (0 : Int) ≤ (h : Int) := by omega
  have b2 : (h : Int) ≤ (c : Int) := by omega
  have b3 : (h : Int) ≤ (N : Int) := by omega
  have b4 : ¬ c = h := by omega
  have b5 : N - h = h := by omega
  have HW := hid (fun w => words_nat m h hh h1 h20 w)
  clear hN hws hp0 hh
  
  go_enter Tryd.func167, Tryd.ntmps167
  go_wp2_with (go_at_call 119; refine (HW.out _).mono ?_; rintro e w1 ⟨rfl, rfl⟩)
  generalize hW0 : ((w.alloc _).alloc _) = W0
  have e1 : W0.heap[w.heap.size]? = some (.cells #[.int .i64 m, .slice (some ⟨g, o, none⟩) N c] 29) := by rw [← hW0]; exact heap_alloc2_old _ _ _
  have e2 : Row2 W0 (w.heap.size + 1) := by rw [← hW0]; exact ⟨_, heap_alloc2_new _ _ _, rfl⟩
  have e3 : w.heap.size + 2 ≤ W0.heap.size := by rw [← hW0]; simp
  have e4 : Below w.heap.size w W0 := by rw [← hW0]; exact ((Below.refl _ _).alloc (Nat.le_refl _) _).alloc (by simp) _
  have E2 := hid e2
  have E3 := hid e3
  have E4 := hid e4
  have CT := hid (fun W (h : Below (w.heap.size + 1) W0 W ∧ Row2 W (w.heap.size + 1)) => RT.out _ W (row_in_of HT.out (Nat.le_succ _) E4.out h.1))
  have CD := hid (fun W (h : Below (w.heap.size + 1) W0 W ∧ Row2 W (w.heap.size + 1)) => RD.out _ W (row_in_of HD.out (Nat.le_succ _) E4.out h.1))
  have hcell : ∀ W : World, Below (w.heap.size + 1) W0 W → W.cell? ⟨w.heap.size, 1, none⟩ = some (.slice (some ⟨g, o, none⟩) N c) := fun W hW => by
    rw [cell_of_row W _ 1 _ _ _ ((hW.block _ (Nat.lt_succ_self _)).trans e1)]; rfl
  clear hW0 e1 e2 e3 e4
  go_region_held3 (fun w' => Below (w.heap.size + 1) W0 w' ∧ Row2 w' (w.heap.size + 1)) (first | with_reducible assumption | exact ⟨Below.drew (Below.refl _ _), E2.out⟩ | exact two_call E3.out (by assumption) (by assumption) | exact two_store _ O1.out (by assumption)) ((first | (go_at_call_of 181 (Value.slice (some ⟨g, o, none⟩) h c); refine (CT.out _ (by assumption)).mono ?_; rintro e w5 ⟨rfl, hb5⟩) | (go_at_call_of 181 (Value.slice (some ⟨g, o + h, none⟩) h (c - h)); refine (CD.out _ (by assumption)).mono ?_; rintro e w5 ⟨rfl, hb5⟩)))
  rename_i hS
  have HS := hid hS
  clear hS
  go_wp2
  refine bodyPost_ret (v := .agg (A ++ B)) (results_cell_row (p := 2) Tryd.results167 _ _ (w.heap.size + 1) 213 _ (0, 0) _ rfl (row2_had HS.out.2) Tryd.underlying213 rfl (by rw [O1.out]; kernel_rfl)) rfl ⟨rfl, E4.out.trans (HS.out.1.mono (Nat.le_succ _))⟩
end Go.Proofs.YtphabggmbdpibaaDoor

namespace Go.Proofs.YtphabggmbdpibaaDoor
open Go.RowKit
open Go.Lib (hid)

attribute [local go_sem ↓] buildD_eq storeD_eq loadD_eq loadC_eq

theorem loadC_mid (V : Array Value) (hV : V.size = 22) (b o : Nat) (W : World) (h : W.rangeAt b o V.toList) : (loadC (.pointer (some ⟨b, o, none⟩))).run Tryd.prog W = .ok (.agg V) W := by
  unfold loadC
  have := run_loadAt_mid (P := Tryd.prog) W b o 166 V.toList _ h Tryd.underlying166 rfl (by rw [Array.length_toList, hV]; kernel_rfl)
  simpa using this

theorem range_two (A B : Array Value) (hA : A.size = 22) (b : Nat) (W : World) (t : TypeId) (fr : Nat × Nat) (h : W.heap[b]? = some (.cells (A ++ B) t fr)) : W.rangeAt b 0 A.toList ∧ W.rangeAt b 22 B.toList := by
  constructor
  · intro j v hv
    rw [cell_of_row W b (0 + j) _ t fr h]
    have hj := (List.getElem?_eq_some_iff.1 hv).1
    rw [Array.length_toList] at hj
    rw [Nat.zero_add, Array.getElem?_append_left hj]
    simpa using hv
  · intro j v hv
    rw [cell_of_row W b (22 + j) _ t fr h, Array.getElem?_append_right (by omega), hA, Nat.add_sub_cancel_left]
    simpa using hv

/-- Which copy stands: 1, 0, or none. -/
def standP (fa fb : Bool) (ca cb : Int) : Int × Bool := if fb && (!fa || decide (cb > ca)) then (1, true) else (0, fa)

set_option maxRecDepth 20000 in
set_option maxHeartbeats 1000000 in
theorem standing_calls (ka kb ca cb : Int) (na nb : List Int) (hna : na.length = 20) (hnb : nb.length = 20) (ha : Numb na) (hb : Numb nb) (hca : 0 ≤ ca ∧ ca ≤ 1000000000) (hcb : 0 ≤ cb ∧ cb ≤ 1000000000) (w : World) :
    Calls Tryd.prog 168 #[.agg (nvc ka na ca ++ nvc kb nb cb)] w fun e w' => e = .returned (.tuple #[.int .i64 (standP (wholeB ka na ca) (wholeB kb nb cb) ca cb).1, .bool (standP (wholeB ka na ca) (wholeB kb nb cb) ca cb).2]) ∧ Below w.heap.size w w' := by
  have sA := nvc_size ka ca na hna
  have sB := nvc_size kb cb nb hnb
  have a21 := nvc_last ka ca na hna
  have b21 := nvc_last kb cb nb hnb
  have CA := hid (fun W => whole_calls ka ca na hna ha hca W)
  have CB := hid (fun W => whole_calls kb cb nb hnb hb hcb W)
  clear ha hb hna hnb
  generalize nvc ka na ca = A at *
  generalize nvc kb nb cb = B at *
  generalize wholeB ka na ca = fa at *
  generalize wholeB kb nb cb = fb at *
  have hblk : ∀ W : World, Below (w.heap.size + 1) (w.alloc (.cells (A ++ B) 213)) W → W.heap[w.heap.size]? = some (.cells (A ++ B) 213) := fun W hW => (hW.block _ (Nat.lt_succ_self _)).trans (heap_alloc_new _ _)
  have l1 : ∀ W : World, Below (w.heap.size + 1) (w.alloc (.cells (A ++ B) 213)) W → (loadC (.pointer (some ⟨w.heap.size, 0, none⟩))).run Tryd.prog W = .ok (.agg A) W := fun W hW => loadC_mid A sA _ 0 W (range_two A B sA _ W _ _ (hblk W hW)).1
  have l2 : ∀ W : World, Below (w.heap.size + 1) (w.alloc (.cells (A ++ B) 213)) W → (loadC (.pointer (some ⟨w.heap.size, 22, none⟩))).run Tryd.prog W = .ok (.agg B) W := fun W hW => loadC_mid B sB _ 22 W (range_two A B sA _ W _ _ (hblk W hW)).2
  have c1 : ∀ W : World, Below (w.heap.size + 1) (w.alloc (.cells (A ++ B) 213)) W → W.cell? ⟨w.heap.size, 21, none⟩ = some (.int .i64 ca) := fun W hW => by
    rw [cell_of_row W _ 21 _ _ _ (hblk W hW), Array.getElem?_append_left (by omega)]; exact a21
  have c2 : ∀ W : World, Below (w.heap.size + 1) (w.alloc (.cells (A ++ B) 213)) W → W.cell? ⟨w.heap.size, 43, none⟩ = some (.int .i64 cb) := fun W hW => by
    rw [cell_of_row W _ 43 _ _ _ (hblk W hW), Array.getElem?_append_right (by omega), sA]; exact b21
  clear hblk a21 b21 sA sB
  go_enter Tryd.func168, Tryd.ntmps168
  go_wp2
  go_region_held3 (fun w' => Below (w.heap.size + 1) (w.alloc (.cells (A ++ B) 213)) w') (first | with_reducible assumption | exact Below.drew (Below.refl _ _) | exact below_step (by assumption) (by simp) (by assumption)) ((first | (go_at_call_of 182 (Value.agg A); refine (CA.out _).mono ?_; rintro e w5 ⟨rfl, hb5⟩) | (go_at_call_of 182 (Value.agg B); refine (CB.out _).mono ?_; rintro e w5 ⟨rfl, hb5⟩)))
  rename_i hS
  have k1 := c1 w5 hS
  have k2 := c2 w5 hS
  have HS := hid (((Below.refl w.heap.size w).alloc (Nat.le_refl _) (.cells (A ++ B) 213)).trans (hS.mono (Nat.le_succ _)))
  clear hS l1 l2 c1 c2 hb5
  by_cases hgt : cb > ca
  · have HG : Hid (decide (cb > ca) = true) := hid (decide_eq_true hgt)
    cases fb <;> cases fa
    all_goals
      go_wp2
      go_ret2
      exact ⟨by unfold standP; rw [HG.out]; rfl, HS.out⟩
  · have hd : decide (cb > ca) = false := decide_eq_false hgt
    have HG := hid hd
    cases fb <;> cases fa
    all_goals
      go_wp2
      go_ret2
      exact ⟨by unfold standP; rw [HG.out]; rfl, HS.out⟩
end Go.Proofs.YtphabggmbdpibaaDoor

namespace Go.Proofs.YtphabggmbdpibaaDoor
open Go.RowKit
open Go.Lib (hid)

attribute [local go_sem ↓] buildC_eq storeC_eq loadC_eq

theorem built_count (c : Int) : Tryd.prog.built 166 #[(2, Value.int .i64 c)].toList = some (nvc 0 (noughts 20) c) := by kernel_rfl

theorem buildC_count (c : Int) (W : World) : (buildC #[(2, .int .i64 c)]).run Tryd.prog W = .ok (.agg (nvc 0 (noughts 20) c)) W := run_build W _ _ _ (built_count c)

theorem storeC_over (V : Array Value) (hV : V.size = 22) (h1 : V.all (·.oneCell') = true) (b : Nat) (W : World) (Z : Array Value) (hz : Z.size = 22) (h : W.heap[b]? = some (.cells Z 166 (0, 0))) : (storeC (.pointer (some ⟨b, 0, none⟩)) (.agg V)).run Tryd.prog W = .ok () (W.setRow b V) := by
  unfold storeC
  simp only [Instr.storeAt, Instr.sureAddr, Sem.run_bind, Sem.run_pure, Result.andThen_ok]
  exact run_storeVar_row W b _ _ Z V h (by rw [hV]; kernel_rfl) (by rw [hV, hz]) h1

theorem storeC_new1 (W : World) (O : Obj) (c' V : Array Value) (h' : c'.size = 22) (hV : V.size = 22) (h1 : V.all (·.oneCell') = true) : (storeC (.pointer (some ⟨W.heap.size + 1, 0, none⟩)) (.agg V)).run Tryd.prog ((W.alloc O).alloc (.cells c' 166)) = .ok () ((W.alloc O).alloc (.cells V 166)) := by
  have h := storeC_new (W.alloc O) c' V h' hV h1
  have e : (W.alloc O).heap.size = W.heap.size + 1 := by simp
  rw [e] at h
  exact h

/-- The numbers of a copy, twenty of them. -/
def pad20 (l : List Int) : List Int := l ++ noughts (20 - l.length)

theorem pad20_len (l : List Int) (h : l.length ≤ 20) : (pad20 l).length = 20 := by unfold pad20; rw [List.length_append, noughts_len]; omega

theorem noughts_numb (n : Nat) : Numb (noughts n) := fun x hx => by
  have := List.eq_of_mem_replicate hx
  omega

theorem pad20_numb {l : List Int} (h : Numb l) : Numb (pad20 l) := fun x hx => by
  rcases List.mem_append.1 hx with hx | hx
  · exact h x hx
  · exact noughts_numb _ x hx

theorem noughts_sum (n : Nat) : (noughts n).sum = 0 := by
  unfold noughts
  induction n with
  | zero => rfl
  | succ n ih => rw [List.replicate_succ, List.sum_cons, ih]; rfl

theorem pad20_sum (l : List Int) : (pad20 l).sum = l.sum := by unfold pad20; rw [List.sum_append, noughts_sum]; omega

set_option maxRecDepth 20000 in
set_option maxHeartbeats 1000000 in
theorem copyWith_calls (l : List Int) (h20 : l.length ≤ 20) (hn : Numb l) (c : Int) (hc : 0 ≤ c ∧ c ≤ 1000000001) (a : Value) (w : World) (ha : RowIn w a l) :
    Calls Tryd.prog 120 #[a, .int .i64 c] w fun e w' => e = .returned (.agg (nvc (1 + (c + l.sum) % 999983) (pad20 l) c)) ∧ Below w.heap.size w w' := by
  obtain ⟨p, cap, rfl, hcap, hp⟩ := ha
  have HP := hid hp
  have HCK := hid (fun W => checked_calls 0 c (pad20 l) (pad20_len l h20) (pad20_numb hn) hc W)
  rw [pad20_sum] at HCK
  have HSP := hid (splice_nvc 0 c l (l.length + 1) (by omega) (by omega) (by omega))
  have HFIT : Hid (1 + (ints l).length ≤ (Value.int .i64 0 :: (ints (noughts 20) ++ [Value.int .i64 c])).length) := hid (by simp [ints_len, noughts_len]; omega)
  have HMIN : Hid ((ints l).length = Nat.min l.length 20) := hid (by rw [ints_len]; exact (Nat.min_eq_left h20).symm)
  have hbuild := buildC_count c
  have hst := fun W O c' h' => storeC_new1 W O c' (nvc 0 (noughts 20) c) h' (nvc_size _ _ _ (noughts_len 20)) (nvc_one _ _ _)
  have s1 := nvc_size 0 c (pad20 l) (pad20_len l h20)
  have s2 := nvc_size (1 + (c + l.sum) % 999983) c (pad20 l) (pad20_len l h20)
  have HSRC : Hid (∀ W : World, Below w.heap.size w W → 0 < (ints l).length → ∃ ad, p = some ad ∧ ∀ j v, (ints l)[j]? = some v → W.cell? (ad.add j) = some v) := hid fun W hW hpos => by
    obtain ⟨g, o, rfl, hg, hcell⟩ := HP.out (fun h => by rw [h] at hpos; cases hpos)
    refine ⟨_, rfl, fun j v hv => ?_⟩
    have hj : j < l.length := by rw [← ints_len]; exact (List.getElem?_eq_some_iff.1 hv).1
    rw [Addr.add_mid, hW.cell (p := ⟨g, o + j, none⟩) hg, hcell j hj]
    rw [ints_at l j hj] at hv
    exact hv
  have hpad : l ++ noughts (20 - l.length) = pad20 l := rfl
  rw [hpad] at HSP
  clear hpad hp hn
  go_enter Tryd.func120, Tryd.ntmps120
  go_wp2_with (first | (refine wpList_copy_splice rfl (.tmp 9) (.tmp 10) 22 22 (by rfl) 2 Tryd.underlying22 (by kernel_rfl) (some ⟨w.heap.size + 1, 1, none⟩) p 20 20 l.length cap (by rfl) (by rfl) (w.heap.size + 1) 1 (Value.int .i64 0 :: (ints (noughts 20) ++ [Value.int .i64 c])) 166 (heap_alloc2_new w _ _) (ints l) HMIN.out (fun h0 => ⟨rfl, HSRC.out _ (((Below.refl _ _).alloc (Nat.le_refl _) _).alloc (by simp) _) h0⟩) HFIT.out (ints_one l) (w.heap.size + 1) _ (Below.refl _ _) (Nat.le_refl _) ?_; intro w4 hg4 hb4; have hl4 := loadC_row (nvc 0 (pad20 l) c) s1 (w.heap.size + 1) w4 (0, 0) (by rw [← HSP.out]; exact hg4.out); have hw4 := (hb4.block w.heap.size (Nat.lt_succ_self _)).trans (heap_alloc2_old w _ _); have hz4 := hb4.size; simp only [World.size_alloc] at hz4; have HW4 := hid hw4; clear hw4) | (go_at_call 153; refine (HCK.out _).mono ?_; rintro e w5 ⟨rfl, hb5⟩; have hst5 := storeC_over _ s2 (nvc_one _ _ _) w.heap.size w5 _ rfl ((hb5.block w.heap.size (by omega)).trans HW4.out)))
  have HG := hid ((hb5.block w.heap.size (by omega)).trans HW4.out)
  refine bodyPost_ret (v := .agg (nvc (1 + (c + l.sum) % 999983) (pad20 l) c)) (results_cell_row (p := 4) Tryd.results120 _ _ w.heap.size 166 _ (0, 0) _ rfl (setRow_heap _ _ _ _ _ _ HG.out) Tryd.underlying166 rfl (by rw [s2]; kernel_rfl)) rfl ⟨rfl, ?_⟩
  refine below_setRow ?_ (Nat.le_refl _) _
  exact ((((Below.refl _ _).alloc (Nat.le_refl _) _).alloc (by simp) _).trans (hb4.mono (Nat.le_succ _))).trans (hb5.mono (by omega))
end Go.Proofs.YtphabggmbdpibaaDoor

namespace Go.Proofs.YtphabggmbdpibaaDoor
open Go.RowKit
open Go.Lib (hid)

/-- The writes of a copy that begins at a place: the check struck, the numbers, the count, the check. -/
def tells (start m : Nat) (ns : List Int) (k c : Int) : List (Nat × Int) := (start, 0) :: ((List.range m).map (fun i => (start + 1 + i, ns.getD i 0)) ++ [(start + 1 + m, c), (start, k)])

theorem tells_len (start m : Nat) (ns : List Int) (k c : Int) : (tells start m ns k c).length = m + 3 := by simp [tells]

theorem tells_mid (start m : Nat) (ns : List Int) (k c : Int) (i : Nat) (h : i < m) : (tells start m ns k c)[i + 1]? = some (start + 1 + i, ns.getD i 0) := by
  unfold tells
  rw [List.getElem?_cons_succ, List.getElem?_append_left (by simpa using h)]
  simp [h]

theorem tells_cnt (start m : Nat) (ns : List Int) (k c : Int) : (tells start m ns k c)[m + 1]? = some (start + 1 + m, c) := by
  unfold tells
  rw [List.getElem?_cons_succ, List.getElem?_append_right (by simp)]
  simp

theorem tells_chk (start m : Nat) (ns : List Int) (k c : Int) : (tells start m ns k c)[m + 2]? = some (start, k) := by
  unfold tells
  rw [List.getElem?_cons_succ, List.getElem?_append_right (by simp)]
  simp

theorem nvc_at (k c : Int) (ns : List Int) (i : Nat) (h : i < ns.length) : (nvc k ns c)[1 + i]? = some (.int .i64 (ns.getD i 0)) := by
  have e : (nvc k ns c)[1 + i]? = (Value.int .i64 k :: (ints ns ++ [Value.int .i64 c]))[1 + i]? := by unfold nvc; simp
  rw [e, Nat.add_comm 1 i, List.getElem?_cons_succ, List.getElem?_append_left (by rw [ints_len]; exact h), ints_at ns i h]
  simp [List.getD, h]

/-- What a function that is told a write has to do. -/
def Puts (K : Nat) (ptr : List Value) (ws : List (Nat × Int)) (bx : Nat) (I : Nat → World → Prop) : Prop :=
  ∀ j n v W, ws[j]? = some (n, v) → I j W → Calls Tryd.prog K (#[.agg #[.int .i64 (n : Nat), .int .i64 v]] ++ ptr.toArray) W fun e w' => e = .returned (.tuple #[]) ∧ I (j + 1) w' ∧ w'.heap[bx]? = W.heap[bx]? ∧ W.heap.size ≤ w'.heap.size

set_option maxRecDepth 20000 in
set_option maxHeartbeats 1000000 in
theorem tell_new (I : Nat → World → Prop) (k c : Int) (ns : List Int) (hn : ns.length = 20) (start m : Nat) (hs : start ≤ 22) (hm : m ≤ 20) (ptr : Value) (w : World) (hput : Puts 122 [ptr] (tells start m ns k c) w.heap.size I) (h0 : I 0 (w.alloc (.cells (nvc k ns c) 166))) :
    Calls Tryd.prog 121 #[.agg (nvc k ns c), .int .i64 start, .int .i64 m, .func (.func 122) #[] #[ptr]] w fun e w' => e = .returned (.tuple #[]) ∧ I (m + 3) w' := by
  have HP := hid hput
  have H0 := hid h0
  have hb0 : (w.alloc (.cells (nvc k ns c) 166)).heap[w.heap.size]? = some (.cells (nvc k ns c) 166) := heap_alloc_new _ _
  have HB0 := hid hb0
  clear hput h0 hb0
  have C0 := hid (fun W (h : I 0 W) => HP.out 0 start 0 W rfl h)
  have CI := hid (fun i (hi : i < m) W (h : I (i + 1) W) => HP.out (i + 1) _ _ W (tells_mid start m ns k c i hi) h)
  have CN := hid (fun W (h : I (m + 1) W) => HP.out (m + 1) _ _ W (tells_cnt start m ns k c) h)
  have CK := hid (fun W (h : I (m + 2) W) => HP.out (m + 2) _ _ W (tells_chk start m ns k c) h)
  have NL := hid (nvc_last k c ns hn)
  have NF := hid (nvc_first k c ns)
  have NA := hid (fun i (hi : i < m) => nvc_at k c ns i (by omega))
  go_enter Tryd.func121, Tryd.ntmps121
  go_wp2_with (go_at_call 122; refine (C0.out _ H0.out).mono ?_; rintro e w1 ⟨rfl, h1, hb1, hz1⟩)
  have hb1' := hb1.trans HB0.out
  have HB1 := hid hb1'
  have H1 := hid h1
  clear hb1 hb1' h1 hz1
  go_loopw [14] (fun iv wr => ∃ i : Nat, i ≤ m ∧ iv = .int .i64 i ∧ I (i + 1) wr ∧ wr.heap[w.heap.size]? = some (.cells (nvc k ns c) 166)) (fun iv _ => m - (RowKit.intOf iv).toNat)
  case atStart => exact ⟨0, Nat.zero_le _, rfl, H1.out, HB1.out⟩
  case round =>
    obtain ⟨i, hi, rfl, hI, hbl⟩ := hrel
    have HBL := hid hbl
    have HII := hid hI
    by_cases hlt : i < m
    · have hc1 : wr.cell? ⟨w.heap.size, 1 + i, none⟩ = some (.int .i64 (ns.getD i 0)) := by rw [cell_of_row wr _ (1 + i) _ _ _ hbl]; exact NA.out i hlt
      have CI2 := hid (CI.out i hlt wr hI)
      clear hbl hI
      generalize ns.getD i 0 = x at *
      have CAST := hid (show ((start + 1 + i : Nat) : Int) = (start : Int) + 1 + i by omega)
      rw [CAST.out] at CI2
      go_wp2_with (go_at_call 122; refine CI2.out.mono ?_; rintro e w5 ⟨rfl, h5, hb5, hz5⟩)
      have HB5 := hid (hb5.trans HBL.out)
      clear hb5
      go_roundw
      case rel => exact ⟨i + 1, by omega, by go_num, h5, HB5.out⟩
      case measure => simp [RowKit.intOf]; omega
    · have hie : i = m := by omega
      subst hie
      have hc1 : wr.cell? ⟨w.heap.size, 21, none⟩ = some (.int .i64 c) := by rw [cell_of_row wr _ 21 _ _ _ hbl]; exact NL.out
      have CN2 := hid (CN.out wr hI)
      have CAST := hid (show ((start + 1 + i : Nat) : Int) = (start : Int) + 1 + i by omega)
      rw [CAST.out] at CN2
      clear hbl hI
      go_wp2_with (first | (go_at_call_of 122 (Value.int .i64 c); refine CN2.out.mono ?_; rintro e w5 ⟨rfl, h5, hb5, hz5⟩; have hbl5 := hb5.trans HBL.out; have hc0 : w5.cell? ⟨w.heap.size, 0, none⟩ = some (.int .i64 k) := (by rw [cell_of_row w5 _ 0 _ _ _ hbl5]; exact NF.out); have H5 := hid h5; clear hb5 hbl5 h5) | (go_at_call_of 122 (Value.int .i64 k); refine (CK.out _ H5.out).mono ?_; rintro e w6 ⟨rfl, h6, _, _⟩))
      go_end0
      exact ⟨rfl, h6⟩
set_option maxRecDepth 20000 in
set_option maxHeartbeats 1000000 in
theorem tell_writes (I : Nat → World → Prop) (k c : Int) (ns : List Int) (hn : ns.length = 20) (start m : Nat) (hs : start ≤ 22) (hm : m ≤ 20) (ptr : Value) (w : World) (hput : Puts 217 [ptr] (tells start m ns k c) w.heap.size I) (h0 : I 0 (w.alloc (.cells (nvc k ns c) 166))) :
    Calls Tryd.prog 121 #[.agg (nvc k ns c), .int .i64 start, .int .i64 m, .func (.func 217) #[] #[ptr]] w fun e w' => e = .returned (.tuple #[]) ∧ I (m + 3) w' := by
  have HP := hid hput
  have H0 := hid h0
  have hb0 : (w.alloc (.cells (nvc k ns c) 166)).heap[w.heap.size]? = some (.cells (nvc k ns c) 166) := heap_alloc_new _ _
  have HB0 := hid hb0
  clear hput h0 hb0
  have C0 := hid (fun W (h : I 0 W) => HP.out 0 start 0 W rfl h)
  have CI := hid (fun i (hi : i < m) W (h : I (i + 1) W) => HP.out (i + 1) _ _ W (tells_mid start m ns k c i hi) h)
  have CN := hid (fun W (h : I (m + 1) W) => HP.out (m + 1) _ _ W (tells_cnt start m ns k c) h)
  have CK := hid (fun W (h : I (m + 2) W) => HP.out (m + 2) _ _ W (tells_chk start m ns k c) h)
  have NL := hid (nvc_last k c ns hn)
  have NF := hid (nvc_first k c ns)
  have NA := hid (fun i (hi : i < m) => nvc_at k c ns i (by omega))
  go_enter Tryd.func121, Tryd.ntmps121
  go_wp2_with (go_at_call 217; refine (C0.out _ H0.out).mono ?_; rintro e w1 ⟨rfl, h1, hb1, hz1⟩)
  have hb1' := hb1.trans HB0.out
  have HB1 := hid hb1'
  have H1 := hid h1
  clear hb1 hb1' h1 hz1
  go_loopw [14] (fun iv wr => ∃ i : Nat, i ≤ m ∧ iv = .int .i64 i ∧ I (i + 1) wr ∧ wr.heap[w.heap.size]? = some (.cells (nvc k ns c) 166)) (fun iv _ => m - (RowKit.intOf iv).toNat)
  case atStart => exact ⟨0, Nat.zero_le _, rfl, H1.out, HB1.out⟩
  case round =>
    obtain ⟨i, hi, rfl, hI, hbl⟩ := hrel
    have HBL := hid hbl
    have HII := hid hI
    by_cases hlt : i < m
    · have hc1 : wr.cell? ⟨w.heap.size, 1 + i, none⟩ = some (.int .i64 (ns.getD i 0)) := by rw [cell_of_row wr _ (1 + i) _ _ _ hbl]; exact NA.out i hlt
      have CI2 := hid (CI.out i hlt wr hI)
      clear hbl hI
      generalize ns.getD i 0 = x at *
      have CAST := hid (show ((start + 1 + i : Nat) : Int) = (start : Int) + 1 + i by omega)
      rw [CAST.out] at CI2
      go_wp2_with (go_at_call 217; refine CI2.out.mono ?_; rintro e w5 ⟨rfl, h5, hb5, hz5⟩)
      have HB5 := hid (hb5.trans HBL.out)
      clear hb5
      go_roundw
      case rel => exact ⟨i + 1, by omega, by go_num, h5, HB5.out⟩
      case measure => simp [RowKit.intOf]; omega
    · have hie : i = m := by omega
      subst hie
      have hc1 : wr.cell? ⟨w.heap.size, 21, none⟩ = some (.int .i64 c) := by rw [cell_of_row wr _ 21 _ _ _ hbl]; exact NL.out
      have CN2 := hid (CN.out wr hI)
      have CAST := hid (show ((start + 1 + i : Nat) : Int) = (start : Int) + 1 + i by omega)
      rw [CAST.out] at CN2
      clear hbl hI
      go_wp2_with (first | (go_at_call_of 217 (Value.int .i64 c); refine CN2.out.mono ?_; rintro e w5 ⟨rfl, h5, hb5, hz5⟩; have hbl5 := hb5.trans HBL.out; have hc0 : w5.cell? ⟨w.heap.size, 0, none⟩ = some (.int .i64 k) := (by rw [cell_of_row w5 _ 0 _ _ _ hbl5]; exact NF.out); have H5 := hid h5; clear hb5 hbl5 h5) | (go_at_call_of 217 (Value.int .i64 k); refine (CK.out _ H5.out).mono ?_; rintro e w6 ⟨rfl, h6, _, _⟩))
      go_end0
      exact ⟨rfl, h6⟩
end Go.Proofs.YtphabggmbdpibaaDoor

namespace Go.Proofs.YtphabggmbdpibaaDoor
open Go.RowKit
open Go.Lib (hid)

theorem ints_set (l : List Int) (i : Nat) (v : Int) : (ints l).set i (.int .i64 v) = ints (l.set i v) := by simp [ints, List.map_set]

set_option maxHeartbeats 1000000 in
theorem newPut_calls (g bw N : Nat) (l : List Int) (hl : l.length = N) (n : Nat) (hn : n < N) (v : Int) (base : Nat) (w : World) (ho : w.ownsRow base 2 1 (.slice (some ⟨g, 0, none⟩) N N) N (ints l)) (hb : w.cell? ⟨bw, 0, none⟩ = some (.slice (some ⟨g, 0, none⟩) N N)) :
    Calls Tryd.prog 122 #[.agg #[.int .i64 n, .int .i64 v], .pointer (some ⟨bw, 0, none⟩)] w fun e w' => e = .returned (.tuple #[]) ∧ w'.ownsRow base 2 1 (.slice (some ⟨g, 0, none⟩) N N) N (ints (l.set n v)) ∧ w.grownBy w' (some g) := by
  have hbl := World.block_lt_of_cell? w _ hb
  have hgl := (ho.lt g rfl).2
  have HO := hid (own_below ho ((Below.refl _ w).alloc (Nat.le_refl _) (.cells #[.int .i64 n, .int .i64 v] 152)))
  have hc1 := HO.out.cellAt n (by omega)
  rw [ints_at l n (by omega)] at hc1
  have hf1 := HO.out.frozenAt n
  have HST := hid (ho.stored n (.int .i64 v))
  rw [ints_set] at HST
  have b1 : (0 : Int) ≤ (n : Int) := by omega
  have b2 : (n : Int) < (N : Int) := by omega
  clear ho
  go_enter Tryd.func122, Tryd.ntmps122
  go_wp2
  go_end0
  exact ⟨rfl, own_below HST.out.1 ((Below.refl _ _).alloc (Nat.le_refl _) _), grown_trans HST.out.2 (grown_below ((Below.refl _ _).alloc (Nat.le_refl _) _))⟩

/-- Numbers with writes done. -/
def app (ws : List (Nat × Int)) (l : List Int) : List Int := ws.foldl (fun l x => l.set x.1 x.2) l

theorem app_len (ws : List (Nat × Int)) : ∀ l, (app ws l).length = l.length := by
  unfold app
  induction ws with
  | nil => intro l; rfl
  | cons x ws ih => intro l; rw [List.foldl_cons, ih, List.length_set]

theorem app_take (ws : List (Nat × Int)) (j : Nat) (n : Nat) (v : Int) (h : ws[j]? = some (n, v)) (l : List Int) : app (ws.take (j + 1)) l = (app (ws.take j) l).set n v := by
  obtain ⟨hj, e⟩ := List.getElem?_eq_some_iff.1 h
  unfold app
  rw [List.take_succ_eq_append_getElem hj, List.foldl_append, e]
  rfl

theorem tells_in (start m : Nat) (ns : List Int) (k c : Int) (N : Nat) (hN : start + m + 2 ≤ N) (x : Nat × Int) (h : x ∈ tells start m ns k c) : x.1 < N := by
  unfold tells at h
  simp only [List.mem_cons, List.mem_append, List.mem_map, List.mem_range, List.not_mem_nil, or_false] at h
  rcases h with rfl | ⟨i, hi, rfl⟩ | rfl | rfl
  · show start < N; omega
  · show start + 1 + i < N; omega
  · show start + 1 + m < N; omega
  · show start < N; omega

/-- What stands while a copy is told into words that the call has made. -/
def Told (w0 : World) (base g bw N : Nat) (ws : List (Nat × Int)) (l0 : List Int) (j : Nat) (W : World) : Prop :=
  W.ownsRow base 2 1 (.slice (some ⟨g, 0, none⟩) N N) N (ints (app (ws.take j) l0)) ∧ W.cell? ⟨bw, 0, none⟩ = some (.slice (some ⟨g, 0, none⟩) N N) ∧ Below base w0 W

theorem puts_new (w0 : World) (base g bw N bx : Nat) (hbg : base ≤ g) (hgw : g ≠ bw) (hgx : g ≠ bx) (ws : List (Nat × Int)) (hin : ∀ x ∈ ws, x.1 < N) (l0 : List Int) (hl : l0.length = N) :
    Puts 122 [.pointer (some ⟨bw, 0, none⟩)] ws bx (fun j W => Told w0 base g bw N ws l0 j W ∧ bx < W.heap.size) := by
  intro j n v W hj hI
  obtain ⟨⟨ho, hb, hw⟩, hx⟩ := hI
  refine (newPut_calls g bw N (app (ws.take j) l0) (by rw [app_len, hl]) n (hin (n, v) (List.mem_of_getElem? hj)) v base W ho hb).mono ?_
  rintro e w' ⟨rfl, ho', hg'⟩
  have hbw := World.block_lt_of_cell? W _ hb
  refine ⟨rfl, ⟨⟨by rw [app_take ws j n v hj]; exact ho', ?_, ?_⟩, Nat.lt_of_lt_of_le hx hg'.size⟩, hg'.block bx hx (fun h => by injection h with h; exact hgx h.symm), hg'.size⟩
  · rw [World.cell?_of_block (w := W) (a := ⟨bw, 0, none⟩) (hg'.block bw hbw (fun h => by injection h with h; exact hgw h.symm))]; exact hb
  · exact ⟨hg'.os.trans hw.os, hg'.tape.trans hw.tape, hg'.output.trans hw.output, Nat.le_trans hw.size hg'.size, fun k hk => (hg'.block k (by have := hw.size; have := (ho.lt g rfl).1; have := (ho.lt g rfl).2; omega) (fun h => by injection h with h; omega)).trans (hw.block k hk)⟩
end Go.Proofs.YtphabggmbdpibaaDoor

namespace Go.Proofs.YtphabggmbdpibaaDoor

theorem app_append (a b : List (Nat × Int)) (l : List Int) : app (a ++ b) l = app b (app a l) := by unfold app; rw [List.foldl_append]

theorem app_cons (n : Nat) (v : Int) (ws : List (Nat × Int)) (l : List Int) : app ((n, v) :: ws) l = app ws (l.set n v) := rfl

theorem app_range (s : Nat) (ns : List Int) : ∀ m (l : List Int), m ≤ ns.length → s + m ≤ l.length → app ((List.range m).map fun i => (s + i, ns.getD i 0)) l = l.take s ++ (ns.take m ++ l.drop (s + m)) := by
  intro m
  induction m with
  | zero => intro l _ _; simp [app]
  | succ m ih =>
    intro l hm hl
    rw [List.range_succ, List.map_append, app_append, ih l (by omega) (by omega), List.map_singleton, app_cons]
    show (l.take s ++ (ns.take m ++ l.drop (s + m))).set (s + m) (ns.getD m 0) = _
    have h1 : (l.take s).length = s := by rw [List.length_take]; omega
    have h2 : (ns.take m).length = m := by rw [List.length_take]; omega
    rw [List.set_append, if_neg (by omega), h1, List.set_append, if_neg (by omega), h2, show s + m - s - m = 0 by omega, List.drop_eq_getElem_cons (by omega), List.set_cons_zero, List.take_succ_eq_append_getElem (by omega), List.append_assoc, List.singleton_append, show s + (m + 1) = s + m + 1 by omega]
    simp [List.getD, show m < ns.length by omega]

/-- The words of a whole copy. -/
theorem app_tells (start m : Nat) (ns : List Int) (k c : Int) (l : List Int) (hm : m ≤ ns.length) (hl : start + m + 2 ≤ l.length) : app (tells start m ns k c) l = l.take start ++ (k :: (ns.take m ++ (c :: l.drop (start + m + 2)))) := by
  unfold tells
  rw [app_cons, app_append, app_range (start + 1) ns m _ hm (by rw [List.length_set]; omega), app_cons, app_cons]
  show ((_ : List Int).set (start + 1 + m) c).set start k = _
  have e1 : (l.set start 0).take (start + 1) = l.take start ++ [0] := by
    rw [List.take_succ_eq_append_getElem (by rw [List.length_set]; omega), List.take_set_of_le (Nat.le_refl _), List.getElem_set_self]
  have e2 : (l.set start 0).drop (start + 1 + m) = l[start + 1 + m] :: l.drop (start + m + 2) := by
    rw [List.drop_set_of_lt (by omega), List.drop_eq_getElem_cons (by omega), show start + 1 + m + 1 = start + m + 2 by omega]
  have h1 : (l.take start).length = start := by rw [List.length_take]; omega
  have h2 : (ns.take m).length = m := by rw [List.length_take]; omega
  rw [e1, e2, List.append_assoc, List.set_append, if_neg (by omega), h1, List.singleton_append, show start + 1 + m - start = m + 1 by omega, List.set_cons_succ, List.set_append, if_neg (by omega), h1, Nat.sub_self, List.set_cons_zero, List.set_append, if_neg (by omega), h2, Nat.sub_self, List.set_cons_zero]
end Go.Proofs.YtphabggmbdpibaaDoor

namespace Go.Proofs.YtphabggmbdpibaaDoor
open Go.RowKit
open Go.Lib (hid)

theorem intInfo : (Tryd.prog.info? 2).map (fun i => (i.zero, i.size, i.bytes)) = some (some (.int .i64 0), 1, 8) := by kernel_rfl

/-- The words of a new Nv. -/
def newWords (l : List Int) : List Int := (1 + (1 + l.sum) % 999983) :: (l ++ (1 :: noughts (l.length + 2)))

theorem newWords_len (l : List Int) : (newWords l).length = 2 * (l.length + 2) := by simp [newWords, noughts_len]; omega

theorem newWords_app (l : List Int) (h : l.length ≤ 20) : app (tells 0 l.length (pad20 l) (1 + (1 + l.sum) % 999983) 1) (noughts (2 * (l.length + 2))) = newWords l := by
  rw [app_tells 0 l.length (pad20 l) _ _ _ (by rw [pad20_len l h]; exact h) (by rw [noughts_len]; omega)]
  have e1 : (pad20 l).take l.length = l := by unfold pad20; exact List.take_left
  have e2 : (noughts (2 * (l.length + 2))).drop (0 + l.length + 2) = noughts (l.length + 2) := by unfold noughts; rw [List.drop_replicate]; congr 1; omega
  rw [e1, e2, List.take_zero, List.nil_append]
  rfl

theorem tell_made (l : List Int) (h20 : l.length ≤ 20) (N : Nat) (hN : N = 2 * (l.length + 2)) (w0 w : World) (base g bw : Nat) (hbg : base ≤ g) (hgw : g ≠ bw)
    (ho : w.ownsRow base 2 1 (.slice (some ⟨g, 0, none⟩) N N) N (ints (noughts N))) (hb : w.cell? ⟨bw, 0, none⟩ = some (.slice (some ⟨g, 0, none⟩) N N)) (hw : Below base w0 w) :
    Calls Tryd.prog 121 #[.agg (nvc (1 + (1 + l.sum) % 999983) (pad20 l) 1), .int .i64 0, .int .i64 l.length, .func (.func 122) #[] #[.pointer (some ⟨bw, 0, none⟩)]] w fun e w' => e = .returned (.tuple #[]) ∧ w'.ownsRow base 2 1 (.slice (some ⟨g, 0, none⟩) N N) N (ints (newWords l)) ∧ w'.cell? ⟨bw, 0, none⟩ = some (.slice (some ⟨g, 0, none⟩) N N) ∧ Below base w0 w' := by
  have hal := (Below.refl w.heap.size w).alloc (Nat.le_refl _) (.cells (nvc (1 + (1 + l.sum) % 999983) (pad20 l) 1) 166)
  have hgl := (ho.lt g rfl).2
  have hbl := World.block_lt_of_cell? w _ hb
  have hput := puts_new w0 base g bw N w.heap.size hbg hgw (Nat.ne_of_lt hgl) (tells 0 l.length (pad20 l) (1 + (1 + l.sum) % 999983) 1) (fun x hx => tells_in 0 l.length _ _ _ N (by omega) x hx) (noughts N) (noughts_len N)
  have h := tell_new (fun j W => Told w0 base g bw N (tells 0 l.length (pad20 l) (1 + (1 + l.sum) % 999983) 1) (noughts N) j W ∧ w.heap.size < W.heap.size) (1 + (1 + l.sum) % 999983) 1 (pad20 l) (pad20_len l h20) 0 l.length (by omega) h20 (.pointer (some ⟨bw, 0, none⟩)) w hput ⟨⟨own_below ho hal, by rw [hal.cell (p := ⟨bw, 0, none⟩) hbl]; exact hb, hw.trans (hal.mono (by have := (ho.lt g rfl).1; omega))⟩, by simp⟩
  refine h.mono ?_
  rintro e w' ⟨rfl, ⟨ho', hb', hw'⟩, _⟩
  refine ⟨rfl, ?_, hb', hw'⟩
  rw [List.take_of_length_le (by rw [tells_len]; omega), hN, newWords_app l h20, ← hN] at ho'
  exact ho'

theorem nvNew_no (l : List Int) (hl : l.length ≤ 1048576) (h : valsB l l.length = false) (a : Value) (w : World) (ha : RowIn w a l) :
    Calls Tryd.prog 63 #[a] w fun e w' => e = .returned (.tuple #[.agg #[.int .i64 0, .slice none 0 0], .bool false]) ∧ Below w.heap.size w w' := by
  have HA := hid ha
  have CV := hid (fun W (hW : RowIn W a l) => areValues_calls l hl l.length a W hW)
  rw [h] at CV
  obtain ⟨p, c, rfl, hc, _⟩ := ha
  go_enter Tryd.func63, Tryd.ntmps63
  go_wp2_with (go_at_call 118; refine (CV.out _ (HA.out.on ((Below.refl _ _).alloc (Nat.le_refl _) _))).mono ?_; rintro e w1 ⟨rfl, rfl⟩)
  exact bodyPost_ret (v := .tuple #[.agg #[.int .i64 0, .slice none 0 0], .bool false]) (by simp [results, Tryd.results63, go_sem]) rfl ⟨rfl, (Below.refl _ _).alloc (Nat.le_refl _) _⟩

set_option maxRecDepth 20000 in
set_option maxHeartbeats 1000000 in
theorem nvNew_yes (l : List Int) (h : ValsP l l.length) (a : Value) (w : World) (ha : RowIn w a l) :
    Calls Tryd.prog 63 #[a] w fun e w' => ∃ g, e = .returned (.tuple #[.agg #[.int .i64 l.length, .slice (some ⟨g, 0, none⟩) (2 * (l.length + 2)) (2 * (l.length + 2))], .bool true]) ∧ Below w.heap.size w w' ∧ w'.ownsRow w.heap.size 2 1 (.slice (some ⟨g, 0, none⟩) (2 * (l.length + 2)) (2 * (l.length + 2))) (newWords l).length (ints (newWords l)) := by
  obtain ⟨h1, h2, _, h4⟩ := h
  have hl1 : 1 ≤ l.length := by omega
  have hl2 : l.length ≤ 20 := by omega
  have HA := hid ha
  have CV := hid (fun W (hW : RowIn W a l) => areValues_calls l (by omega) l.length a W hW)
  rw [valsB_iff.2 ⟨h1, h2, rfl, h4⟩] at CV
  obtain ⟨N, hN⟩ : ∃ N, N = 2 * (l.length + 2) := ⟨_, rfl⟩
  have CW := hid (fun W => words_nat l.length (l.length + 2) rfl hl1 hl2 W)
  have CC := hid (fun W (hW : RowIn W a l) => copyWith_calls l hl2 h4 1 (by omega) a W hW)
  obtain ⟨i0, hi0, hz0, hz1, hz2⟩ := info_parts intInfo
  obtain ⟨wm, hrun, hown, hgr⟩ := run_make_full (P := Tryd.prog) (w.alloc (.cells #[.int .i64 0, .slice none 0 0] 29)) (w.heap.size + 1) 22 2 i0 _ 1 Tryd.underlying22 hi0 hz0 hz1 .i64 .i64 N (by rw [hz2]; omega) (by unfold maxLen; omega) (by simp)
  have hzeros : (madeCells (Value.int .i64 0).cells (N * 1)).toList = ints (noughts N) := by
    rw [Nat.mul_one]
    show (madeCells #[Value.int .i64 0] N).toList = _
    rw [toList_madeCells_one]
    simp [ints, noughts]
  have hsz : (w.alloc (.cells #[.int .i64 0, .slice none 0 0] 29)).heap.size = w.heap.size + 1 := by simp
  rw [hzeros, hsz] at hown
  rw [hsz] at hrun
  have hgl := (hown.lt (w.heap.size + 1) rfl).2
  have HO := hid hown
  have hB0 : Below (w.heap.size + 1) (w.alloc (.cells #[.int .i64 0, .slice none 0 0] 29)) wm := ⟨hgr.os, hgr.tape, hgr.output, hgr.size, fun k hk => hgr.block k (by rw [hsz]; exact hk) (by simp)⟩
  have HB0 := hid hB0
  have hcast : ((N : Nat) : Int) = 2 * ((l.length : Int) + 2) := by omega
  rw [hcast] at hrun
  have hmf : ∀ (fn : Fn) (first cap : Array Value) (w : World), (Instr.makeFunc fn first cap).run Tryd.prog w = .ok (.func fn first cap) w := fun _ _ _ _ => rfl
  have hHW : Below w.heap.size w (w.alloc (.cells #[.int .i64 0, .slice none 0 0] 29)) := (Below.refl _ _).alloc (Nat.le_refl _) _
  have HW0 := hid hHW
  have HW0' := hHW
  have HAL : Hid (Below wm.heap.size wm (wm.alloc (.cells #[.slice (some ⟨w.heap.size + 1, 0, none⟩) N N] 22))) := hid ((Below.refl _ _).alloc (Nat.le_refl _) _)
  have HA2 := hid (HA.out.on (HW0'.trans ((hB0.mono (Nat.le_succ _)).trans (HAL.out.mono (by omega)))))
  subst hN
  clear hown hzeros hsz hgr hi0 hz0 hz1 hz2 hHW HW0' hB0 h4
  obtain ⟨p, c, rfl, hc, _⟩ := ha
  go_enter Tryd.func63, Tryd.ntmps63
  go_wp2_with (first | (go_at_call 118; refine (CV.out _ (HA.out.on HW0.out)).mono ?_; rintro e w1 ⟨rfl, rfl⟩) | (go_at_call 119; refine (CW.out _).mono ?_; rintro e w1 ⟨rfl, rfl⟩) | (go_at_call 120; refine (CC.out _ HA2.out).mono ?_; rintro e w5 ⟨rfl, hb5⟩) | (go_at_call 121; refine (tell_made l hl2 _ rfl _ w5 (w.heap.size + 1) (w.heap.size + 1) wm.heap.size (Nat.le_refl _) (Nat.ne_of_lt hgl) (own_below (own_below HO.out HAL.out) hb5) (by rw [hb5.cell (p := ⟨wm.heap.size, 0, none⟩) (by simp)]; simp) ((HB0.out.trans (HAL.out.mono (by omega))).trans (hb5.mono (by simp; omega)))).mono ?_; rintro e w6 ⟨rfl, ho6, hc6, hb6⟩; have k0 := hb6.cell (p := ⟨w.heap.size, 0, none⟩) (Nat.lt_succ_self _); have k1 := hb6.cell (p := ⟨w.heap.size, 1, none⟩) (Nat.lt_succ_self _); have kf := fun o => hb6.frozen (p := ⟨w.heap.size, o, none⟩) (Nat.lt_succ_self _)))
  have HO6 := hid ho6
  have HB6 := hid hb6
  clear ho6 hb6
  refine bodyPost_ret (v := .tuple #[.agg #[.int .i64 l.length, .slice (some ⟨w.heap.size + 1, 0, none⟩) (2 * (l.length + 2)) (2 * (l.length + 2))], .bool true]) (by simp [results, Tryd.results63, go_sem, k0, k1]) rfl ⟨w.heap.size + 1, rfl, ?_, ?_⟩
  · exact ((HW0.out.trans (HB6.out.mono (Nat.le_succ _))).setCell (p := ⟨w.heap.size, 0, none⟩) (Nat.le_refl _) _).setCell (p := ⟨w.heap.size, 1, none⟩) (Nat.le_refl _) _
  · have h6 := ownsRow_setCell_below (ownsRow_setCell_below HO6.out (a := ⟨w.heap.size, 0, none⟩) (Nat.lt_succ_self _) (.int .i64 l.length)) (a := ⟨w.heap.size, 1, none⟩) (Nat.lt_succ_self _) (.slice (some ⟨w.heap.size + 1, 0, none⟩) (2 * (l.length + 2)) (2 * (l.length + 2)))
    rw [newWords_len]
    exact ⟨h6.1, h6.2.imp id fun ⟨g, cap, cur, a1, a2, a3⟩ => ⟨g, cap, cur, a1, Nat.le_trans (Nat.le_succ _) a2, a3⟩⟩
end Go.Proofs.YtphabggmbdpibaaDoor
