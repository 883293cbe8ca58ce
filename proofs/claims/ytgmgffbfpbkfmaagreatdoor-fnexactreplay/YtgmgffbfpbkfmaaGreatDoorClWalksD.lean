/- Cleared, the specification's and the code's. -/
import Derived.Test.YtgmgffbfpbkfmaaGreatDoorMarks
import Derived.Test.YtgmgffbfpbkfmaaGreatDoorShelf
import Derived.Handy
namespace Go.Proofs.YtgmgffbfpbkfmaaGreatDoor
open Go.RowKit
open Go.Lib (hid)

/-- The text of a register that is cleared. -/
def resetT : List UInt8 := [114, 101, 115, 101, 116]

/-- Eight of them, by value. -/
def resetA : Array Value := #[.string ⟨resetT.toArray⟩, .string ⟨resetT.toArray⟩, .string ⟨resetT.toArray⟩, .string ⟨resetT.toArray⟩, .string ⟨resetT.toArray⟩, .string ⟨resetT.toArray⟩, .string ⟨resetT.toArray⟩, .string ⟨resetT.toArray⟩]

def resets (n : Nat) : List (List UInt8) := List.replicate n resetT

theorem resets_len (n : Nat) : (resets n).length = n := by simp [resets]

theorem resets_succ (n : Nat) : resets (n + 1) = resets n ++ [resetT] := by unfold resets; rw [List.replicate_succ']

set_option maxRecDepth 20000 in
set_option maxHeartbeats 2000000 in
theorem specCleared_calls (w : World) : Calls Tryz.prog 108 #[] w fun e w' => ∃ sv, e = .returned sv ∧ Below w.heap.size w w' ∧ w'.ownsRow w.heap.size 9 1 sv (resets 8).length (strs (resets 8)) := by
  go_enter Tryz.func108, Tryz.ntmps108
  go_wp2
  go_loopw [1, 2] (fun out iv wr => ∃ i : Nat, i ≤ 8 ∧ iv = .int .i64 i ∧ Below w.heap.size w wr ∧ wr.ownsRow w.heap.size 9 1 out i (strs (resets i))) (fun _ iv _ => 8 - (RowKit.intOf iv).toNat)
  case atStart => exact ⟨0, Nat.zero_le _, rfl, (Below.refl _ _).alloc (Nat.le_refl _) _, World.ownsRow_made w #[] 0 (Nat.le_refl _) (Nat.zero_le _) rfl⟩
  case round =>
    obtain ⟨i, hi, rfl, hbel, hown⟩ := hrel
    have HB := hid hbel
    have HO := hid hown
    clear hbel hown
    by_cases hlt : i < 8
    · have b1 : (i : Int) < 8 := by omega
      go_wp2_with (at_builtin; refine wp_append_str rfl _ _ rfl w.heap.size _ _ _ rfl (HO.out.alloc _) ⟨wr.heap.size, 0, none⟩ 1 ⟨resetT.toArray⟩ rfl ?c1 ?c2 ?c3 ?_)
      case c1 => simp [go_sem, resetT]
      case c2 => omega
      case c3 => have := HB.out.size; simp; omega
      intro out' w2 ho2 hg2 _
      have HG := hid hg2
      have HN : Hid (w2.ownsRow w.heap.size 9 1 out' (i + 1) (strs (resets (i + 1)))) := hid (by rw [resets_succ, strs_snoc]; exact ho2)
      have HB2 : Hid (Below w.heap.size w w2) := hid ((HB.out.alloc HB.out.size _).grown hg2 (by have := HB.out.size; simp; omega) (fun k hk => (HO.out.lt k hk).1))
      clear hg2 ho2
      go_wp2
      go_roundw
      case rel => exact ⟨i + 1, by omega, by go_num, HB2.out, HN.out⟩
      case measure => simp [RowKit.intOf]; omega
    · have hie : i = 8 := by omega
      subst hie
      go_wp2
      go_ret
      exact ⟨_, rfl, HB.out, HO.out⟩

set_option maxRecDepth 20000 in
set_option maxHeartbeats 2000000 in
theorem clearedRegs_calls (w : World) : Calls Tryz.prog 118 #[] w fun e w' => e = .returned (.agg resetA) ∧ Below w.heap.size w w' := by
  go_enter Tryz.func118, Tryz.ntmps118
  go_wp2
  go_rounds 9
  refine bodyPost_ret (v := .agg resetA) (by simp [results, Tryz.results118, go_sem, resetA, resetT]) rfl ⟨rfl, ?_⟩
  exact ((Below.refl _ _).alloc (Nat.le_refl _) _).alloc (by simp) _
end Go.Proofs.YtgmgffbfpbkfmaaGreatDoor
