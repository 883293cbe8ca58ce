/- The program's reading of a term whole, for as many brackets as may come: by induction; then readTerm, which catches the reader's own panic. -/
import Derived.Test.YtjaaplcgphlccaaGreatDoorImplBr
import Derived.Defers
import Derived.Recover
namespace Go.Proofs.YtjaaplcgphlccaaGreatDoor
open Go.RowKit
open Go.Lib (hid)

theorem br_zero : BrAll 0 := by
  intro w b s i a ha h h40
  have hp : pTerm 0 (s.data.toList.drop i) = none := by
    unfold pTerm
    rw [if_pos ((byteAt_head s i 40 (by decide)).1 h40)]
  have HP := hid hp
  have ha' : a = 40 := by omega
  subst ha'
  clear ha hp h h40
  go_enter Tryz.func82, Tryz.ntmps82
  go_wp2_with (go_at_call 65; refine (want_no _ _).mono ?_; rintro e w1 ⟨rfl, rfl⟩)
  exact ⟨rfl, Out.bad HP.out ((Step.refl _ _).alloc _)⟩

theorem br_succ (d : Nat) (hd : d + 1 ≤ 40) (hT : TermAll d) : BrAll (d + 1) := by
  intro w b s i a ha h h40
  by_cases hk : kindOfW ((s.data.toList.drop (i + 1)).takeWhile nmB) = 0
  · refine br_noword (d + 1) w b s i a (by omega) h h40 hk ?_
    have ht : (s.data.toList.drop i).tail = s.data.toList.drop (i + 1) := by rw [List.tail_drop]
    unfold pTerm
    rw [if_pos ((byteAt_head s i 40 (by decide)).1 h40)]
    simp only []
    unfold pBr
    dsimp only
    rw [ht, if_pos hk]
  · obtain ⟨_, h3, h7, _⟩ := kindOfW_ne hk
    exact br_word d hT w b s i a (by omega) (by omega) (by omega) h h40 _ h3 h7 rfl

theorem term_of (d : Nat) (hB : BrAll d) : TermAll d := by
  intro w b s i a ha h
  subst ha
  unfold Out
  by_cases h40 : byteAt s i = 40
  · have hY : BrYes d := fun w b s i k ps n h h40 hp => (hB w b s i _ rfl h h40).mono fun e w' ho => by
      unfold Out at ho; rw [hp] at ho; exact ho
    have hN : BrNo d := fun w b s i h h40 hp => (hB w b s i _ rfl h h40).mono fun e w' ho => by
      unfold Out at ho; rw [hp] at ho; exact ho
    cases hp : pTerm d (s.data.toList.drop i) with
    | none => exact term_no_br d hN w b s i h h40 hp
    | some r =>
      obtain ⟨k, ps, n⟩ := r
      exact term_yes_br d hY w b s i k ps n h h40 hp
  · have hn40 : ¬ (s.data.toList.drop i).head? = some 40 := fun e => h40 ((byteAt_head s i 40 (by decide)).2 e)
    by_cases h33 : byteAt s i = 33
    · have hh := (byteAt_head s i 33 (by decide)).1 h33
      have hi : i < s.size := by
        by_cases hx : i < s.size
        · exact hx
        · rw [byteAt_end s _ hx] at h33; cases h33
      have ht : (s.data.toList.drop i).tail = s.data.toList.drop (i + 1) := by rw [List.tail_drop]
      have hpt : pTerm d (s.data.toList.drop i) = (pName (s.data.toList.drop (i + 1))).map fun n => (2, [], n + 1) := by
        unfold pTerm
        rw [if_neg hn40, if_pos hh, ht]
      cases hp : pName (s.data.toList.drop (i + 1)) with
      | none =>
        rw [hpt, hp]
        exact term_no_secret d w b s i h hi h33 hp
      | some n =>
        rw [hp] at hpt
        obtain ⟨_, hks, _⟩ := term_sound d _ _ _ _ hpt
        rw [hpt]
        exact term_yes_secret d w b s i n h hi h33 hp hks
    · have hn33 : ¬ (s.data.toList.drop i).head? = some 33 := fun e => h33 ((byteAt_head s i 33 (by decide)).2 e)
      have hpt : pTerm d (s.data.toList.drop i) = (pName (s.data.toList.drop i)).map fun n => (1, [], n) := by
        unfold pTerm
        rw [if_neg hn40, if_neg hn33]
      cases hp : pName (s.data.toList.drop i) with
      | none =>
        rw [hpt, hp]
        exact term_no_name d w b s i h h40 h33 hp
      | some n =>
        rw [hp] at hpt
        obtain ⟨_, hks, _⟩ := term_sound d _ _ _ _ hpt
        rw [hpt]
        exact term_yes_name d w b s i n h h40 h33 hp hks

theorem term_all (d : Nat) : d ≤ 40 → TermAll d := by
  induction d with
  | zero => intro _; exact term_of 0 br_zero
  | succ d ih => intro hd; exact term_of (d + 1) (br_succ d hd (ih (by omega)))

end Go.Proofs.YtjaaplcgphlccaaGreatDoor
