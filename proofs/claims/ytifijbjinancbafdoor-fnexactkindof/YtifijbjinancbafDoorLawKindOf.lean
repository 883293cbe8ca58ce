/- The law on KindOf, walked: it answers true. -/
import Derived.Test.YtifijbjinancbafDoorFaceKind
namespace Go.Proofs.YtifijbjinancbafDoor
open Go.RowKit
open Go.Lib (hid)

theorem Tab.on {w w' : World} (h : Tab w) (hG : 0 < w.heap.size) (hb : Below w.heap.size w w') : Tab w' := fun k h3 h7 => by
  have hr := h k h3 h7
  exact ⟨(hb.cell (p := ⟨0, k * 4, none⟩) hG).trans hr.word, (hb.cell (p := ⟨0, k * 4 + 1, none⟩) hG).trans hr.least, (hb.cell (p := ⟨0, k * 4 + 2, none⟩) hG).trans hr.most, (hb.cell (p := ⟨0, k * 4 + 3, none⟩) hG).trans hr.first⟩

theorem law_calls (s : ByteArray) (w : World) (hT : Tab w) (hG : 0 < w.heap.size) :
    Calls Tryd.prog 3 #[.string s] w fun e w' => e = .returned (.bool true) ∧ Below w.heap.size w w' := by
  by_cases hs : s.size ≤ 1048576
  · have hdec : decide ((1048576 : Int) < (s.size : Int)) = false := decide_eq_false (by omega)
    have hdec2 : decide ((s.size : Int) > 1048576) = false := decide_eq_false (by omega)
    have HT := hid hT
    clear hT
    go_enter Tryd.func3, Tryd.ntmps3
    go_wp2_with (first | (go_at_call 4; refine (kind_spec s _ hs).mono ?_; rintro e w1 ⟨rfl, hb1⟩; refine Hid.out ?_))
    refine hid ?_
    have hG1 := Nat.lt_of_lt_of_le hG hb1.size
    have HT1 := hid (HT.out.on hG hb1)
    have HB1 := hid hb1
    clear hb1
    go_wp2_with (first | (go_at_call 5; refine (kind_impl s _ HT1.out hG1).mono ?_; rintro e w2 ⟨rfl, hb2⟩; refine Hid.out ?_))
    refine hid ?_
    go_wp2
    go_ret
    exact ⟨rfl, HB1.out.trans (hb2.mono HB1.out.size)⟩
  · have hdec : decide ((1048576 : Int) < (s.size : Int)) = true := decide_eq_true (by omega)
    have hdec2 : decide ((s.size : Int) > 1048576) = true := decide_eq_true (by omega)
    clear hT
    go_enter Tryd.func3, Tryd.ntmps3
    go_wp2
    go_ret
    exact ⟨rfl, Below.refl _ _⟩
end Go.Proofs.YtifijbjinancbafDoor
