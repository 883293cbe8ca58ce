/- Blend, begun: sumOf over a row of floats. -/
import Derived.Test.YthpnlhbfginkjaaFloatKit
namespace Go.Proofs.Ythpnlhbfginkjaa
open Go.RowKit
open Go.Lib (hid)

attribute [local go_sem] run_fadd run_fsub run_fmul run_fquo run_store_float

/-- The sum of a row, from left to right, from nought on. -/
def sumO (l : List Nat) : Option Nat := l.foldl (fun o x => fop .add o (some x)) (some 0)

theorem sumO_next (l : List Nat) (i : Nat) (h : i < l.length) : sumO (l.take (i + 1)) = fop .add (sumO (l.take i)) (some l[i]) := by
  unfold sumO
  rw [List.take_succ_eq_append_getElem h, List.foldl_append]
  rfl

set_option maxHeartbeats 1000000 in
theorem sum_calls (l : List Nat) (hn : l.length ≤ 1000000000) (a : Value) (w : World) (ha : RowFl w a l) :
    Calls Try.prog 38 #[a] w fun e w' => ∃ r, e = .returned (.float .f64 r) ∧ FS (sumO l) r ∧ Below w.heap.size w w' := by
  obtain ⟨p, c, rfl, _, hp⟩ := ha
  have HP := hid hp
  clear hp
  go_enter Try.func38, Try.ntmps38
  go_wp2
  go_loopw [3, 8] (fun sv iv wr => ∃ i r : Nat, i ≤ l.length ∧ iv = .int .i64 i ∧ sv = .float .f64 r ∧ Hid (FS (sumO (l.take i)) r) ∧ Below w.heap.size w wr) (fun _ iv _ => l.length - (RowKit.intOf iv).toNat)
  case atStart => exact ⟨0, 0, Nat.zero_le _, rfl, rfl, hid (FS.some 0), Below.refl _ _⟩
  case round =>
    obtain ⟨i, r, hi, rfl, rfl, HR, hbel⟩ := hrel
    by_cases hlt : i < l.length
    · have hne : l ≠ [] := fun h => by rw [h] at hlt; cases hlt
      obtain ⟨g, o, rfl, hg, hc⟩ := HP.out hne
      have hc1 := hc i hlt
      rw [← hbel.cell (p := ⟨g, o + i, none⟩) hg] at hc1
      have HN := hid (sumO_next l i hlt)
      clear hc
      generalize l[i] = x at *
      have b1 : (0 : Int) ≤ (i : Int) := by omega
      have b2 : (i : Int) < (l.length : Int) := by omega
      go_wp2
      go_roundw
      case rel => exact ⟨i + 1, _, by omega, by go_num, rfl, hid (by rw [HN.out]; exact FS.op .add HR.out (FS.some x) _), by first | exact hbel | exact hbel.trans (fw_below _ _ _ _ _)⟩
      case measure => simp [RowKit.intOf]; omega
    · have hie : i = l.length := by omega
      subst hie
      go_wp2
      go_ret
      exact ⟨_, rfl, by have := HR.out; rw [List.take_length] at this; exact this, hbel⟩
end Go.Proofs.Ythpnlhbfginkjaa
