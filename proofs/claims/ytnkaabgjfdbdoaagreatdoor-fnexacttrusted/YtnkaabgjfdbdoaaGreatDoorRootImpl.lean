/- The program opens a Root: its counter, its registers, what stands behind them. -/
import Derived.Test.YtnkaabgjfdbdoaaGreatDoorPackRoot
import Derived.Test.YtnkaabgjfdbdoaaGreatDoorPackTab
import Derived.Test.YtnkaabgjfdbdoaaGreatDoorPackRead
import Derived.Deep.RegionHeld3
namespace Go.Proofs.YtnkaabgjfdbdoaaGreatDoor
open Go.RowKit
open Go.Lib (hid)

/-- Is there one number in the words. -/
def cntB (s : Int) (l : List Int) : Bool := (readOut s l).2.2 && decide (s = 1)

/-- The number that stands there. -/
def cntN (s : Int) (l : List Int) : Int := (readOut s l).1.headD 0

/-- The counter as the program holds it. -/
def cntV (s : Int) (l : List Int) (a : Value) : Array Value := if cntB s l = true then #[.int .i64 s, a, .int .i64 (cntN s l)] else #[.int .i64 0, .slice none 0 0, .int .i64 0]

theorem three_cells {W : World} {b : Nat} {x0 x1 x2 : Value} {t : TypeId} (h : W.heap[b]? = some (.cells #[x0, x1, x2] t)) :
    W.cell? ⟨b, 0, none⟩ = some x0 ∧ W.cell? ⟨b, 1, none⟩ = some x1 ∧ W.cell? ⟨b, 2, none⟩ = some x2 :=
  ⟨(cell_of_row W b 0 _ _ _ h).trans rfl, (cell_of_row W b 1 _ _ _ h).trans rfl, (cell_of_row W b 2 _ _ _ h).trans rfl⟩

theorem three_thaw {W : World} {b : Nat} {V : Array Value} {t : TypeId} (h : W.heap[b]? = some (.cells V t)) (o : Nat) : W.frozen? ⟨b, o, none⟩ = false := by simp [World.frozen?, h]

set_option maxRecDepth 20000 in
set_option maxHeartbeats 2000000 in
theorem readCounter_calls (s : Int) (l : List Int) (hl : l.length ≤ 1048576) (a : Value) (w : World) (ha : RowIn w a l) :
    Calls Tryz.prog 148 #[.agg #[.int .i64 s, a]] w fun e w' => e = .returned (.tuple #[.agg (cntV s l a), .bool (cntB s l)]) ∧ Below w.heap.size w w' := by
  have HA := hid ha
  have CN := hid (fun a W (ha : RowIn W a l) => read_impl s l hl a W ha)
  unfold ReadPost at CN
  obtain ⟨p, c, rfl, _, _⟩ := ha
  have hcount : (readOut s l).2.2 = true → ((readOut s l).1.length : Int) = s := readOut_count
  unfold cntV cntB cntN
  generalize (readOut s l).2.1 = cc at *
  generalize (readOut s l).2.2 = b at *
  generalize (readOut s l).1 = L at *
  obtain ⟨ds, hds⟩ : ∃ ds, decide (s = 1) = ds := ⟨_, rfl⟩
  rw [hds]
  have HDS := hid hds
  clear hds
  obtain ⟨W0, hW0⟩ : ∃ W0, W0 = (w.alloc (.cells #[.int .i64 s, .slice p l.length c] 39)).alloc (.cells #[.int .i64 0, .slice none 0 0, .int .i64 0] 174) := ⟨_, rfl⟩
  have HB0 : Hid (Below w.heap.size w W0) := hid (by rw [hW0]; exact ((Below.refl _ _).alloc (Nat.le_refl _) _).alloc (by simp) _)
  have HV0 : Hid (W0.heap[w.heap.size]? = some (.cells #[.int .i64 s, .slice p l.length c] 39)) := hid (by rw [hW0]; exact heap_two_old _ _)
  have HZ0 : Hid (W0.heap[w.heap.size + 1]? = some (.cells #[.int .i64 0, .slice none 0 0, .int .i64 0] 174)) := hid (by rw [hW0]; exact heap_two_new _ _)
  have hz0 : w.heap.size + 1 < W0.heap.size := by rw [hW0]; simp
  have HW0 := hid hW0
  clear hW0
  go_enter Tryz.func148, Tryz.ntmps148
  go_wp2_with (go_at_call 176; rw [← HW0.out]; refine (CN.out _ _ (HA.out.on HB0.out)).mono ?_; rintro e w1 ⟨sv1, rfl, hb1, ho1⟩; refine Hid.out ?_)
  refine hid ?_
  have hz1 := hb1.size
  have hr := row_in_own ho1
  have HB1 := hid (HB0.out.trans (hb1.mono HB0.out.size))
  have HV1 := hid ((hb1.block _ (by omega)).trans HV0.out)
  have HZ1 := hid ((hb1.block _ (by omega)).trans HZ0.out)
  have k := var_cells HV1.out
  obtain ⟨z0, z1, z2⟩ := three_cells HZ1.out
  have f0 := three_thaw HZ1.out 0
  have f1 := three_thaw HZ1.out 1
  have f2 := three_thaw HZ1.out 2
  clear hb1 ho1
  obtain ⟨q, d, rfl, hd, hq⟩ := hr
  obtain ⟨k0, k1⟩ := k
  cases b with
  | false =>
    clear hq hcount
    go_wp2
    refine bodyPost_ret (v := .tuple #[.agg #[.int .i64 0, .slice none 0 0, .int .i64 0], .bool false]) (by simp [results, Tryz.results148, go_sem, z0, z1, z2]) rfl ⟨rfl, ?_⟩
    exact ((HB1.out.setCell (p := ⟨w.heap.size + 1, 0, none⟩) (Nat.le_succ _) _).setCell (p := ⟨w.heap.size + 1, 1, none⟩) (Nat.le_succ _) _).setCell (p := ⟨w.heap.size + 1, 2, none⟩) (Nat.le_succ _) _
  | true =>
    cases ds with
    | true =>
      have hL : L.length = 1 := by have := hcount rfl; have := of_decide_eq_true HDS.out; omega
      obtain ⟨n0, rfl⟩ : ∃ n0, L = [n0] := by
        cases L with
        | nil => cases hL
        | cons x r => cases r with
          | nil => exact ⟨x, rfl⟩
          | cons y r2 => simp at hL
      obtain ⟨g, o, rfl, hg, hcell⟩ := hq (by simp)
      have hc := hcell 0 (by simp)
      clear hcell hq hcount hL
      rw [Nat.add_zero] at hc
      simp only [List.getElem_cons_zero] at hc
      go_wp2_with (fail)
      go_region_with (fail)
      all_goals
        go_wp2
        refine bodyPost_ret (v := .tuple #[.agg #[.int .i64 s, .slice p l.length c, .int .i64 n0], .bool true]) ?_ ?_ ?_
        · simp [results, Tryz.results148, go_sem, z0, z1, z2]
        · rfl
        · exact ⟨rfl, (((HB1.out.setCell (p := ⟨w.heap.size + 1, 0, none⟩) (Nat.le_succ _) _).setCell (p := ⟨w.heap.size + 1, 1, none⟩) (Nat.le_succ _) _).setCell (p := ⟨w.heap.size + 1, 2, none⟩) (Nat.le_succ _) _).drew⟩
    | false =>
      have hL : ((L.length : Int) != 1) = true := by rw [bne_iff_ne]; have := hcount rfl; have := of_decide_eq_false HDS.out; omega
      clear hq hcount
      go_wp2
      refine bodyPost_ret (v := .tuple #[.agg #[.int .i64 0, .slice none 0 0, .int .i64 0], .bool false]) (by simp [results, Tryz.results148, go_sem, z0, z1, z2]) rfl ⟨rfl, ?_⟩
      exact ((HB1.out.setCell (p := ⟨w.heap.size + 1, 0, none⟩) (Nat.le_succ _) _).setCell (p := ⟨w.heap.size + 1, 1, none⟩) (Nat.le_succ _) _).setCell (p := ⟨w.heap.size + 1, 2, none⟩) (Nat.le_succ _) _

/-- Are these the registers of a Root that is up, or none of one that is not. -/
def areB (up : Bool) (ps : List (List UInt8)) : Bool := if up = true then regB ps else decide (ps.length = 0)

set_option maxRecDepth 20000 in
set_option maxHeartbeats 2000000 in
theorem areRegs_calls (up : Bool) (ps : List (List UInt8)) (p : Option Addr) (c : Nat) (w : World) (ha : TextsAt w (.slice p ps.length c) ps) (hn : ps.length ≤ 1048576) (hT : Tab w) (hG : 0 < w.heap.size) :
    Calls Tryz.prog 149 #[.bool up, .slice p ps.length c] w fun e w' => e = .returned (.bool (areB up ps)) ∧ Below w.heap.size w w' := by
  have CR := hid (regs_impl ps p c w ha hn hT hG)
  clear ha hT
  cases up with
  | true =>
    obtain ⟨b0, b1, b2, b3, b4, b5, b6, b7, hV⟩ : ∃ b0 b1 b2 b3 b4 b5 b6 b7 : ByteArray, regV ps = #[.string b0, .string b1, .string b2, .string b3, .string b4, .string b5, .string b6, .string b7] := by
      unfold regV
      split
      · rename_i h
        obtain ⟨x0, x1, x2, x3, x4, x5, x6, x7, hx⟩ := eight ((regB_iff ps).1 h).1
        exact ⟨_, _, _, _, _, _, _, _, by rw [hx]; rfl⟩
      · exact ⟨_, _, _, _, _, _, _, _, rfl⟩
    show Calls _ _ _ _ fun e w' => e = .returned (.bool (regB ps)) ∧ _
    generalize regB ps = rb at *
    rw [hV] at CR
    clear hV
    go_enter Tryz.func149, Tryz.ntmps149
    go_wp2_with (go_at_call 177; refine CR.out.mono ?_; rintro e w1 ⟨rfl, hb1⟩; refine Hid.out ?_)
    refine hid ?_
    have HB1 := hid hb1
    clear hb1
    go_wp2
    go_ret
    exact ⟨rfl, HB1.out.alloc HB1.out.size _⟩
  | false =>
    go_enter Tryz.func149, Tryz.ntmps149
    go_wp2
    go_ret
    refine ⟨?_, Below.refl _ _⟩
    refine Eq.trans (b := Ending.returned (.bool ((ps.length : Int) == 0))) rfl ?_
    show Ending.returned (.bool ((ps.length : Int) == 0)) = Ending.returned (.bool (decide (ps.length = 0)))
    congr 2
    rw [Bool.eq_iff_iff, beq_iff_eq, decide_eq_true_iff]
    omega
end Go.Proofs.YtnkaabgjfdbdoaaGreatDoor
