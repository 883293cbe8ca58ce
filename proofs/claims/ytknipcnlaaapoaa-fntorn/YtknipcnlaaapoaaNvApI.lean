/- May the writes be done? The program's asking. -/
import Derived.Test.YtknipcnlaaapoaaWrArg
import Derived.Test.YtknipcnlaaapoaaNvReadI
namespace Go.Proofs.Ytknipcnlaaapoaa
open Go.RowKit
open Go.Lib (hid)

/-- Is the write at a place one that N words can take? -/
def wokB (N : Nat) (F : List Int) (i : Nat) : Bool := !decide (F.getD (i * 2) 0 < 0) && !decide (F.getD (i * 2) 0 ≥ (N : Int)) && !decide (F.getD (i * 2 + 1) 0 < 0) && !decide (F.getD (i * 2 + 1) 0 > 1000000000)

/-- Are all? -/
def canB (N : Nat) (F : List Int) (n : Nat) : Bool := !decide ((n : Int) > 100) && (List.range n).all (wokB N F)

theorem all_fail (N : Nat) (F : List Int) (n i : Nat) (h : i < n) (hw : wokB N F i = false) : (List.range n).all (wokB N F) = false := by
  rw [Bool.eq_false_iff]
  intro h2
  have := List.all_eq_true.1 h2 i (List.mem_range.2 h)
  rw [hw] at this
  cases this

set_option maxRecDepth 20000 in
set_option maxHeartbeats 1000000 in
theorem canWrite_calls (s : Int) (l : List Int) (n : Nat) (F : List Int) (a b : Value) (w : World) (ha : RowIn w a l) (hb : WRow w b n F) :
    Calls Try.prog 37 #[.agg #[.int .i64 s, a], b] w fun e w' => e = .returned (.bool (canB l.length F n)) ∧ Below w.heap.size w w' := by
  obtain ⟨p, c, rfl, _, _⟩ := ha
  obtain ⟨hF, q, d, rfl, _, hq⟩ := hb
  have HQ := hid hq
  clear hq
  unfold canB
  by_cases h100 : (n : Int) > 100
  · have hd : decide ((n : Int) > 100) = true := decide_eq_true h100
    rw [hd]
    clear hd
    go_enter Try.func37, Try.ntmps37
    go_wp2
    go_ret
    exact ⟨rfl, (Below.refl _ _).alloc (Nat.le_refl _) _⟩
  · have hd : decide ((n : Int) > 100) = false := decide_eq_false h100
    rw [hd]
    clear hd
    have HF := hid hF
    clear hF
    obtain ⟨W0, hW0⟩ : ∃ W0, W0 = w.alloc (.cells #[.int .i64 s, .slice p l.length c] 26) := ⟨_, rfl⟩
    have HB0 : Hid (Below w.heap.size w W0) := hid (by rw [hW0]; exact (Below.refl _ _).alloc (Nat.le_refl _) _)
    have HC0 : Hid (W0.heap[w.heap.size]? = some (.cells #[.int .i64 s, .slice p l.length c] 26)) := hid (by rw [hW0]; exact heap_alloc_new _ _)
    have hz0 : w.heap.size < W0.heap.size := by rw [hW0]; simp
    have HW0 := hid hW0
    clear hW0
    go_enter Try.func37, Try.ntmps37
    go_wp2
    rw [← HW0.out]
    go_loopw [12] (fun iv wr => ∃ i : Nat, i ≤ n ∧ iv = .int .i64 i ∧ Below W0.heap.size W0 wr ∧ (List.range i).all (wokB l.length F) = true) (fun iv _ => n - (RowKit.intOf iv).toNat)
    case atStart => exact ⟨0, Nat.zero_le _, rfl, Below.refl _ _, rfl⟩
    case round =>
      obtain ⟨i, hi, rfl, hbel, hall⟩ := hrel
      have HB2 := hid hbel
      have HB1 := hid (HB0.out.trans (hbel.mono HB0.out.size))
      have HAI := hid hall
      have HC2 := hid ((hbel.block _ hz0).trans HC0.out)
      have hwl : w.heap.size < wr.heap.size := Nat.lt_of_lt_of_le hz0 hbel.size
      obtain ⟨k0, k1⟩ := var_cells HC2.out
      by_cases hlt : i < n
      · obtain ⟨g, o, rfl, hg, hc⟩ := HQ.out (by omega)
        have a0 := hc (i * 2) (by have := HF.out; omega)
        have a1 := hc (i * 2 + 1) (by have := HF.out; omega)
        have HGX : Hid (F.getD (i * 2) 0 = F[i * 2]'(by have := HF.out; omega)) := hid (by have := HF.out; simp [List.getD, show i * 2 < F.length by omega])
        have HGY : Hid (F.getD (i * 2 + 1) 0 = F[i * 2 + 1]'(by have := HF.out; omega)) := hid (by have := HF.out; simp [List.getD, show i * 2 + 1 < F.length by omega])
        have hx : wr.cell? ⟨g, o + i * 2, none⟩ = some (.int .i64 (F[i * 2]'(by have := HF.out; omega))) := by rw [HB1.out.cell (p := ⟨g, o + i * 2, none⟩) hg]; exact a0
        have hy : wr.cell? ⟨g, o + i * 2 + 1, none⟩ = some (.int .i64 (F[i * 2 + 1]'(by have := HF.out; omega))) := by rw [HB1.out.cell (p := ⟨g, o + i * 2 + 1, none⟩) hg, Nat.add_assoc]; exact a1
        clear hc a0 a1 hbel hall
        generalize F[i * 2]'_ = x at *
        generalize F[i * 2 + 1]'_ = y at *
        have b1 : (0 : Int) ≤ (i : Int) := by omega
        have b2 : (i : Int) < (n : Int) := by omega
        by_cases t1 : x < 0
        · have HT := hid t1
          have HALL := hid (all_fail l.length F n i hlt (by unfold wokB; rw [HGX.out, HGY.out]; simp [HT.out]))
          go_wp2
          go_ret
          exact ⟨by rw [HALL.out]; rfl, HB1.out.alloc HB1.out.size _⟩
        · by_cases t2 : x ≥ (l.length : Int)
          · have HT := hid t2
            have HALL := hid (all_fail l.length F n i hlt (by unfold wokB; rw [HGX.out, HGY.out]; simp [HT.out]))
            go_wp2
            go_ret
            exact ⟨by rw [HALL.out]; rfl, HB1.out.alloc HB1.out.size _⟩
          · by_cases t3 : y < 0
            · have HT := hid t3
              have HALL := hid (all_fail l.length F n i hlt (by unfold wokB; rw [HGX.out, HGY.out]; simp [HT.out]))
              go_wp2
              go_ret
              exact ⟨by rw [HALL.out]; rfl, HB1.out.alloc HB1.out.size _⟩
            · by_cases t4 : y > 1000000000
              · have HT := hid t4
                have HALL := hid (all_fail l.length F n i hlt (by unfold wokB; rw [HGX.out, HGY.out]; simp [HT.out]))
                go_wp2
                go_ret
                exact ⟨by rw [HALL.out]; rfl, HB1.out.alloc HB1.out.size _⟩
              · have HW1 : Hid (wokB l.length F i = true) := hid (by unfold wokB; rw [HGX.out, HGY.out]; simp; omega)
                go_wp2
                go_roundw
                case rel => exact ⟨i + 1, by omega, by go_num, HB2.out.alloc HB2.out.size _, by rw [List.range_succ, List.all_append, HAI.out]; simp [HW1.out]⟩
                case measure => simp [RowKit.intOf]; omega
      · have hie : i = n := by omega
        subst hie
        clear hbel hall
        go_wp2
        go_ret
        exact ⟨by rw [HAI.out]; rfl, HB1.out⟩
end Go.Proofs.Ytknipcnlaaapoaa
