/- Shown, the specification's. -/
import Derived.Test.YtgmgffbfpbkfmaaGreatDoorInAny
import Derived.Test.YtgmgffbfpbkfmaaGreatDoorRegBoth
import Derived.Test.YtgmgffbfpbkfmaaGreatDoorShownPlain
import Derived.Test.YtgmgffbfpbkfmaaGreatDoorAppendStrs
namespace Go.Proofs.YtgmgffbfpbkfmaaGreatDoor
open Go.RowKit
open Go.Lib (hid)

def ShownPost (ps : List (List UInt8)) (mask : Int) (w : World) (e : Ending) (w' : World) : Prop :=
  ∃ sv, e = .returned (.tuple #[sv, .bool (shownOut ps mask).2]) ∧ Below w.heap.size w w' ∧ w'.ownsRow w.heap.size 9 1 sv (shownOut ps mask).1.length (strs (shownOut ps mask).1)

set_option maxRecDepth 20000 in
set_option maxHeartbeats 2000000 in
theorem shown_spec_no (ps : List (List UInt8)) (hs : ∀ p ∈ ps, p.length ≤ 1048576) (hn : ps.length ≤ 1048576) (mask : Int) (hno : ¬ (regB ps = true ∧ 1 ≤ mask ∧ mask ≤ 255)) (a : Value) (w : World) (ha : TextsAt w a ps) :
    Calls Tryz.prog 97 #[a, .int .i64 mask] w fun e w' => ∃ sv, e = .returned (.tuple #[sv, .bool false]) ∧ Below w.heap.size w w' ∧ w'.ownsRow w.heap.size 9 1 sv 0 [] := by
  have CR := hid (fun a W hW => regs_spec ps hs hn a W hW)
  have HA := hid ha
  obtain ⟨p, c, rfl, _⟩ := ha
  have HB0 : Hid (Below w.heap.size w (w.alloc (.cells #[] 9))) := hid ((Below.refl _ _).alloc (Nat.le_refl _) _)
  have HO0 : Hid ((w.alloc (.cells #[] 9)).ownsRow w.heap.size 9 1 (.slice (some ⟨w.heap.size, 0, none⟩) 0 0) 0 []) := hid (World.ownsRow_made w #[] 0 (Nat.le_refl _) (Nat.zero_le _) rfl)
  cases hr : regB ps with
  | false =>
    rw [hr] at CR
    clear hno hr
    go_enter Tryz.func97, Tryz.ntmps97
    go_wp2_with (go_at_call 105; refine (CR.out _ _ (HA.out.on HB0.out)).mono ?_; rintro e w1 ⟨rfl, hb1⟩; refine Hid.out ?_)
    refine hid ?_
    have HB1 := hid (HB0.out.trans (hb1.mono HB0.out.size))
    have HO1 := hid (own_below HO0.out hb1)
    clear hb1
    go_wp2
    go_ret2
    exact ⟨_, rfl, HB1.out, HO1.out⟩
  | true =>
    rw [hr] at CR
    have hm : decide (1 ≤ mask ∧ mask ≤ 255) = false := decide_eq_false (fun h => hno ⟨hr, h⟩)
    have CI := hid (fun W => in_any mask 1 255 W)
    rw [hm] at CI
    clear hno hr hm
    go_enter Tryz.func97, Tryz.ntmps97
    go_wp2_with (go_at_call 105; refine (CR.out _ _ (HA.out.on HB0.out)).mono ?_; rintro e w1 ⟨rfl, hb1⟩; refine Hid.out ?_)
    refine hid ?_
    have HB1 := hid (HB0.out.trans (hb1.mono HB0.out.size))
    have HO1 := hid (own_below HO0.out hb1)
    clear hb1
    go_wp2_with (go_at_call 87; refine (CI.out _).mono ?_; rintro e w2 ⟨rfl, rfl⟩)
    go_ret2
    exact ⟨_, rfl, HB1.out, HO1.out⟩

set_option maxRecDepth 20000 in
set_option maxHeartbeats 2000000 in
theorem shown_spec_yes (ps : List (List UInt8)) (hs : ∀ p ∈ ps, p.length ≤ 1048576) (m : Nat) (hm1 : 1 ≤ m) (hm2 : m ≤ 255) (hr : regB ps = true) (a : Value) (w : World) (ha : TextsAt w a ps) :
    Calls Tryz.prog 97 #[a, .int .i64 m] w fun e w' => ∃ sv, e = .returned (.tuple #[sv, .bool true]) ∧ Below w.heap.size w w' ∧ w'.ownsRow w.heap.size 9 1 sv (chosenTo m ps 8).length (strs (chosenTo m ps 8)) := by
  have h8 := ((regB_iff ps).1 hr).1
  have CR := hid (fun a W hW => regs_spec ps hs (by omega) a W hW)
  rw [hr] at CR
  have CI := hid (fun W => in_any m 1 255 W)
  rw [decide_eq_true (show (1 : Int) ≤ m ∧ (m : Int) ≤ 255 by omega)] at CI
  have HA := hid ha
  obtain ⟨p, c, rfl, hp⟩ := ha
  obtain ⟨g, rfl, hk⟩ := hp (fun e => by rw [e] at h8; simp at h8)
  have HK := hid hk
  have HB0 : Hid (Below w.heap.size w (w.alloc (.cells #[] 9))) := hid ((Below.refl _ _).alloc (Nat.le_refl _) _)
  have HO0 : Hid ((w.alloc (.cells #[] 9)).ownsRow w.heap.size 9 1 (.slice (some ⟨w.heap.size, 0, none⟩) 0 0) 0 []) := hid (World.ownsRow_made w #[] 0 (Nat.le_refl _) (Nat.zero_le _) rfl)
  have h8a : ps.length ≤ 8 := by omega
  have h8b : 8 ≤ ps.length := by omega
  clear hp hk h8 hr hs
  go_enter Tryz.func97, Tryz.ntmps97
  go_wp2_with (go_at_call 105; refine (CR.out _ _ (HA.out.on HB0.out)).mono ?_; rintro e w1 ⟨rfl, hb1⟩; refine Hid.out ?_)
  refine hid ?_
  have HB1 := hid (HB0.out.trans (hb1.mono HB0.out.size))
  have HO1 := hid (own_below HO0.out hb1)
  clear hb1
  go_wp2_with (go_at_call 87; refine (CI.out _).mono ?_; rintro e w2 ⟨rfl, rfl⟩; refine Hid.out ?_)
  refine hid ?_
  go_wp2
  go_loopw [6, 7] (fun out iv wr => ∃ i : Nat, i ≤ 8 ∧ iv = .int .i64 i ∧ Below w.heap.size w wr ∧ Hid (wr.ownsRow w.heap.size 9 1 out (chosenTo m ps i).length (strs (chosenTo m ps i)))) (fun _ iv _ => 8 - (RowKit.intOf iv).toNat)
  case atStart => exact ⟨0, Nat.zero_le _, rfl, HB1.out, HO1⟩
  case round =>
    obtain ⟨i, hi, rfl, hbel, HO⟩ := hrel
    have HB := hid hbel
    by_cases hlt : i < 8
    · have hil : i < ps.length := by omega
      have hc1 := (HK.out.on hbel).2 i hil
      have b1 : (0 : Int) ≤ (i : Int) := by omega
      have b2 : (i : Int) < (ps.length : Int) := by omega
      have hbs := bit_shr m i hm2 hlt
      have HD : Hid (ps.getD i [] = ps[i]) := hid (by simp [List.getD, hil])
      cases hbit : m.testBit i with
      | true =>
        rw [hbit] at hbs
        have HC := hid (chosen_yes m ps i hbit)
        clear hbel hbit
        go_wp2_with (at_builtin; refine wp_append_str rfl _ _ rfl w.heap.size _ _ _ rfl (HO.out.alloc _) ⟨wr.heap.size, 0, none⟩ 1 ⟨ps[i].toArray⟩ rfl ?c1 ?c2 ?c3 ?_)
        case c1 => simp [go_sem]
        case c2 => have := chosen_few m ps i; omega
        case c3 => have := HB.out.size; simp; omega
        intro out' w3 ho3 hg3 _
        have HN : Hid (w3.ownsRow w.heap.size 9 1 out' (chosenTo m ps (i + 1)).length (strs (chosenTo m ps (i + 1)))) := hid (by rw [HC.out, HD.out, List.length_append, strs_snoc]; exact ho3)
        have HB3 : Hid (Below w.heap.size w w3) := hid ((HB.out.alloc HB.out.size _).grown hg3 (by have := HB.out.size; simp; omega) (fun k hk => (HO.out.lt k hk).1))
        clear hg3 ho3
        go_wp2
        go_roundw
        case rel => exact ⟨i + 1, by omega, by go_num, HB3.out, HN⟩
        case measure => simp [RowKit.intOf]; omega
      | false =>
        rw [hbit] at hbs
        have HC := hid (chosen_no m ps i hbit)
        clear hbel hbit
        go_wp2
        go_roundw
        case rel => exact ⟨i + 1, by omega, by go_num, HB.out, hid (by rw [HC.out]; exact HO.out)⟩
        case measure => simp [RowKit.intOf]; omega
    · have hie : i = 8 := by omega
      subst hie
      clear hbel
      go_wp2
      go_ret2
      exact ⟨_, rfl, HB.out, HO.out⟩

/-- The specification's Shown, whatever it is given. -/
theorem shown_spec (ps : List (List UInt8)) (hs : ∀ p ∈ ps, p.length ≤ 1048576) (hn : ps.length ≤ 1048576) (mask : Int) (a : Value) (w : World) (ha : TextsAt w a ps) :
    Calls Tryz.prog 97 #[a, .int .i64 mask] w (ShownPost ps mask w) := by
  unfold ShownPost shownOut
  by_cases h : regB ps = true ∧ 1 ≤ mask ∧ mask ≤ 255
  · rw [if_pos h]
    obtain ⟨m, rfl⟩ := Int.eq_ofNat_of_zero_le (show 0 ≤ mask by omega)
    rw [Int.toNat_natCast]
    exact shown_spec_yes ps hs m (by omega) (by omega) h.1 a w ha
  · rw [if_neg h]
    exact shown_spec_no ps hs hn mask h a w ha
end Go.Proofs.YtgmgffbfpbkfmaaGreatDoor
