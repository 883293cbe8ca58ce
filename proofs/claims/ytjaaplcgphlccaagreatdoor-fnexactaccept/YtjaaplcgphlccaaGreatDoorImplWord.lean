/- What the program's table of kinds says of a word: kindOfWord answers the kind whose word it is, or 0, and changes nothing; the table reads as it is laid. -/
import Derived.Test.YtjaaplcgphlccaaGreatDoorImplRead
namespace Go.Proofs.YtjaaplcgphlccaaGreatDoor
open Go.RowKit
open Go.Lib (hid)

/-- The table of kinds, as its initialiser lays it. -/
structure Row (w : World) (k : Nat) : Prop where
  word : w.cell? ⟨0, k * 4, none⟩ = some (.string ⟨(wordOf k).toArray⟩)
  least : w.cell? ⟨0, k * 4 + 1, none⟩ = some (.int .i64 (leastOf k))
  most : w.cell? ⟨0, k * 4 + 2, none⟩ = some (.int .i64 (mostOf k))
  first : w.cell? ⟨0, k * 4 + 3, none⟩ = some (.bool (firstOf k))

def Tab (w : World) : Prop := ∀ k, 3 ≤ k → k ≤ 7 → Row w k

theorem word_calls (w : World) (q : ByteArray) (hT : Tab w) :
    Calls Tryz.prog 91 #[.string q] w fun e w' => e = .returned (.int .i64 (kindOfW q.data.toList)) ∧ ∃ n, w' = w.drewN n := by
  have HT := hid hT
  clear hT
  go_enter Tryz.func91, Tryz.ntmps91
  go_wp2

  go_loopw [3] (fun a wr => ∃ k : Nat, 3 ≤ k ∧ k ≤ 8 ∧ a = .int .i64 k ∧ (∀ j, 3 ≤ j → j < k → q.data.toList ≠ wordOf j) ∧ ∃ n, wr = w.drewN n) (fun a _ => 8 - (RowKit.intOf a).toNat)
  case atStart => exact ⟨3, by omega, by omega, rfl, fun j h1 h2 => by omega, 0, rfl⟩
  case round =>
    obtain ⟨k, h3, h8, rfl, hall, n, rfl⟩ := hrel
    have HA := hid hall
    clear hall
    by_cases hk : k ≤ 7
    · have hw := (HT.out k h3 hk).word
      by_cases he : q.data.toList = wordOf k
      · have hq : (wordOf k == q.toList) = true := by rw [Lib.toList_data, beq_iff_eq, he]
        have hkd : kindOfW q.data.toList = k := by rw [he, kindOfW_word h3 hk]
        have HK := hid hkd
        clear he hkd
        go_wp2
        go_ret
        exact ⟨by rw [HK.out]; rfl, _, rfl⟩
      · have hq : (wordOf k == q.toList) = false := by
          rw [Lib.toList_data, beq_eq_false_iff_ne]
          exact fun e => he e.symm
        have HE := hid he
        clear he
        go_wp2
        go_roundw
        case rel =>
          refine ⟨k + 1, by omega, by omega, by go_num, fun j h1 h2 => ?_, _, rfl⟩
          by_cases hj : j = k
          · subst hj; exact HE.out
          · exact HA.out j h1 (by omega)
        case measure => simp [RowKit.intOf]; omega
    · have hk8 : k = 8 := by omega
      subst hk8
      have h0 : kindOfW q.data.toList = 0 := by
        by_cases h : kindOfW q.data.toList = 0
        · exact h
        · obtain ⟨_, a, b, c⟩ := kindOfW_ne h
          exact absurd c (HA.out _ a (by omega))
      have H0 := hid h0
      clear h0
      go_wp2
      go_ret
      exact ⟨by rw [H0.out]; rfl, _, rfl⟩
end Go.Proofs.YtjaaplcgphlccaaGreatDoor
