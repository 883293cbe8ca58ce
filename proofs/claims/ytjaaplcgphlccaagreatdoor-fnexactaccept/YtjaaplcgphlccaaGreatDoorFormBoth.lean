/- Certs, the specification's and the program's: formed, made. -/
import Derived.Test.YtjaaplcgphlccaaGreatDoorSignBoth
import Derived.Test.YtjaaplcgphlccaaGreatDoorPackNum
import Derived.Test.YtjaaplcgphlccaaGreatDoorCertPlain
namespace Go.Proofs.YtjaaplcgphlccaaGreatDoor
open Go.RowKit
open Go.Lib (hid)

theorem num_spec (n : Int) (w : World) : Calls Tryz.prog 47 #[.int .i64 n] w fun e w' => e = .returned (.tuple #[.string (bytesOf (numL n)), .bool (numB n)]) ∧ Below w.heap.size w w' := by
  unfold numL numB
  by_cases h : 0 ≤ n ∧ n ≤ 1000000000
  · rw [if_pos h, decide_eq_true h]
    obtain ⟨k, rfl⟩ := Int.eq_ofNat_of_zero_le h.1
    exact Num.specNumber_yes k (by omega) w
  · rw [if_neg h, decide_eq_false h]
    exact (Num.specNumber_no n h w).mono fun e w' h => by
      obtain ⟨he, hw⟩ := h
      exact ⟨he, by rw [hw]; exact Below.refl _ _⟩

theorem num_impl (n : Int) (w : World) (hP : Lib.TabIs Tryz.prog w "internal/strconv.uint64pow10" .u64 Lib.pow10Tab) : Calls Tryz.prog 84 #[.int .i64 n] w fun e w' => e = .returned (.tuple #[.string (bytesOf (numL n)), .bool (numB n)]) ∧ Below w.heap.size w w' := by
  unfold numL numB
  by_cases h : 0 ≤ n ∧ n ≤ 1000000000
  · rw [if_pos h, decide_eq_true h]
    obtain ⟨k, rfl⟩ := Int.eq_ofNat_of_zero_le h.1
    exact Num.implNumber_yes k (by omega) w hP
  · rw [if_neg h, decide_eq_false h]
    exact (Num.implNumber_no n h w).mono fun e w' h => by
      obtain ⟨he, hw⟩ := h
      exact ⟨he, by rw [hw]; exact Below.refl _ _⟩


theorem last_test (ks : Nat) : Ending.returned (.bool (decide ((0 : Int) < (ks : Int)))) = Ending.returned (.bool ((true && (true && (true && true))) && decide (ks ≠ 0))) := by
  by_cases h : ks = 0
  · subst h; rfl
  · rw [decide_eq_true (show (0 : Int) < (ks : Int) by omega), decide_eq_true h]; rfl

theorem last_testN (ks : Nat) : Ending.returned (.bool (decide (0 < ks))) = Ending.returned (.bool ((true && (true && (true && true))) && decide (ks ≠ 0))) := by
  by_cases h : ks = 0
  · subst h; rfl
  · rw [decide_eq_true (show 0 < ks by omega), decide_eq_true h]; rfl

theorem last_test2 (ks : Nat) : Ending.returned (.bool ((ks : Int) != 0)) = Ending.returned (.bool ((true && (true && (true && true))) && decide (ks ≠ 0))) := by
  by_cases h : ks = 0
  · subst h; rfl
  · rw [decide_eq_true h]
    have : ((ks : Int) != 0) = true := by simp; exact h
    rw [this]; rfl

end Go.Proofs.YtjaaplcgphlccaaGreatDoor
