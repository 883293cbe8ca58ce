/- Resets again and again, plainly: what stands, and what PowerOn answers. -/
import Derived.Test.YtphabggmbdpibaaDoorOnImpl
import Derived.Test.YtphabggmbdpibaaDoorFoldPlain
import Derived.Test.YtphabggmbdpibaaDoorOffBoth
import Derived.Test.YtphabggmbdpibaaDoorRootBoots
namespace Go.Proofs.YtphabggmbdpibaaDoor
open Go.RowKit
open Go.Lib (hid)

def keyK : ByteArray := ⟨#[33, 107]⟩

/-- The registers of a Root that is up, or not. -/
def regsAt (up : Bool) : List (List UInt8) := if up = true then resets 8 else []

theorem regsAt_few (up : Bool) : (regsAt up).length ≤ 8 := by
  cases up
  · exact Nat.zero_le _
  · exact Nat.le_of_eq (resets_len 8)

theorem keyK_secret : secretB keyK.data.toList = true := by decide +kernel

theorem rise_ok {W : List Int} {x c : Int} (h : StoodOne W x c) (up : Bool) : rootB keyK.data.toList 1 W up (regsAt up) = true := by
  unfold rootB
  rw [one_read h, keyK_secret]
  cases up
  · rfl
  · show (true && (decide ((1 : Int) = 1) && (true && regB (resets 8)))) = true
    rw [resets_regs]
    rfl

theorem rise_cnt {W : List Int} {x c : Int} (h : StoodOne W x c) : cntN 1 W = x ∧ (readOut 1 W).2.1 = c := by
  unfold cntN
  rw [one_read h]
  exact ⟨rfl, rfl⟩

theorem rise_boots {W : List Int} {x c : Int} (h : StoodOne W x c) (up : Bool) : bootsOut keyK.data.toList 1 W up (regsAt up) = x := by
  unfold bootsOut
  rw [if_pos (rise_ok h up), (rise_cnt h).1]

theorem rise_off {W : List Int} {x c : Int} (h : StoodOne W x c) (up : Bool) : offOut keyK 1 W up (regsAt up) = (keyK, 1, W) := by
  unfold offOut
  rw [if_pos (rise_ok h up)]

theorem rise_new : newR keyK = (true, keyK, 1, zeroW) ∧ StoodOne zeroW 0 1 := by
  refine ⟨?_, ?_⟩
  · unfold newR
    rw [if_pos keyK_secret]
  · refine ⟨2, 0, 1, 0, 0, 0, by decide +kernel, ?_, by decide, Or.inl ⟨by decide +kernel, rfl, rfl, fun h => absurd h (by decide)⟩⟩
    unfold inN
    omega

theorem rise_on {W : List Int} {x c cut : Int} (h : StoodOne W x c) (hx : 0 ≤ x ∧ x ≤ 60) (hc : 1 ≤ c ∧ c ≤ 61) (h0 : 0 ≤ cut) (up : Bool) :
    onB keyK.data.toList 1 W up (regsAt up) cut = true ∧ onOut keyK 1 W up (regsAt up) cut = (keyK, 1, onW W x cut, decide (4 ≤ cut), regsAt (decide (4 ≤ cut))) ∧ (onW W x cut).length = 6 ∧ StoodOne (onW W x cut) (if 4 ≤ cut then x + 1 else x) (if 4 ≤ cut then c + 1 else c) := by
  have hxi : inN x := by unfold inN; omega
  have hci : inN c := by unfold inN; omega
  have hg : goesB x c cut = true := by unfold goesB; exact decide_eq_true ⟨by omega, by omega, h0⟩
  obtain ⟨e1, e2⟩ := rise_cnt h
  have hb : onB keyK.data.toList 1 W up (regsAt up) cut = true := by
    unfold onB
    rw [rise_ok h up, e1, e2, hg]
    rfl
  have hf := on_facts h hxi hci hg
  obtain ⟨W', hp, hs⟩ := (one_put (cut := cut) h hxi hci).2 hg
  have ew : onW W x cut = W' := by unfold onW; rw [hp]
  refine ⟨hb, ?_, hf.2.1, ?_⟩
  · unfold onOut
    rw [if_pos hb, e1]
    unfold regsAt
    by_cases h4 : 4 ≤ cut
    · rw [if_pos h4, decide_eq_true h4]; rfl
    · rw [if_neg h4, decide_eq_false h4]; rfl
  · rw [ew]
    by_cases h4 : 4 ≤ cut
    · rw [if_pos h4] at hs ⊢
      rw [if_pos h4]
      exact hs
    · rw [if_neg h4] at hs ⊢
      rw [if_neg h4]
      exact hs

theorem off_up {W : List Int} {x c : Int} (h : StoodOne W x c) : bootsOut keyK.data.toList 1 W false [] = x := rise_boots h false

/-- What the loop holds: the box of the Root, its words, its registers, what stands there. -/
def HoldsR (w : World) (b : Nat) (x c : Int) (up : Bool) (wr : World) : Prop :=
  ∃ W g cap q d, StoodOne W x c ∧ wr.heap[b]? = some (.cells #[.string keyK, .int .i64 1, .slice (some ⟨g, 0, none⟩) 6 cap, .bool up, .slice q (regsAt up).length d] 31) ∧ RowIn wr (.slice (some ⟨g, 0, none⟩) 6 cap) W ∧ TextsAt wr (.slice q (regsAt up).length d) (regsAt up) ∧ b < wr.heap.size ∧ w.heap.size ≤ b ∧ Below w.heap.size w wr
end Go.Proofs.YtphabggmbdpibaaDoor
