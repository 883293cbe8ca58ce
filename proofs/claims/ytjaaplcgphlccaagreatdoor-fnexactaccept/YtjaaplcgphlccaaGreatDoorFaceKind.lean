/- What both sides answer of a text's kind. -/
import Derived.Test.YtjaaplcgphlccaaGreatDoorSpecAll
import Derived.Test.YtjaaplcgphlccaaGreatDoorImplFace
namespace Go.Proofs.YtjaaplcgphlccaaGreatDoor
open Go.RowKit
open Go.Lib (hid)

theorem kind_spec (s : ByteArray) (w : World) (hs : s.size ≤ 1048576) :
    Calls Tryz.prog 46 #[.string s] w fun e w' => e = .returned (.int .i64 ((nodeOf s).1 : Nat)) ∧ Below w.heap.size w w' := by
  by_cases h4 : s.size ≤ 4000
  · have hno : nodeOf s = kindS 40 s.data.toList := by unfold nodeOf; rw [if_pos h4]
    have i4 : ¬ (s.size : Int) > 4000 := by omega
    rw [hno]
    clear hno
    go_enter Tryz.func46, Tryz.ntmps46
    go_wp2_with (go_at_call 50; refine (kind_all 40 (by omega) s _ _ rfl hs).mono ?_; rintro e w1 ⟨sv, rfl, hb, _⟩; refine Hid.out ?_)
    refine hid ?_
    go_wp2
    go_ret
    exact ⟨rfl, hb⟩
  · have hno : nodeOf s = (0, []) := by unfold nodeOf; rw [if_neg h4]
    have i4 : (s.size : Int) > 4000 := by omega
    rw [hno]
    clear hno
    go_enter Tryz.func46, Tryz.ntmps46
    go_wp2
    go_ret
    exact ⟨rfl, Below.refl _ _⟩

theorem kind_impl (s : ByteArray) (w : World) (hT : Tab w) (hG : 0 < w.heap.size) :
    Calls Tryz.prog 63 #[.string s] w fun e w' => e = .returned (.int .i64 ((nodeOf s).1 : Nat)) ∧ Below w.heap.size w w' := by
  have HT := hid hT
  clear hT
  go_enter Tryz.func63, Tryz.ntmps63
  by_cases h0 : (nodeOf s).1 = 0
  · go_wp2_with (go_at_call 43; refine (read_none s _ HT.out hG h0).mono ?_; rintro e w1 ⟨rfl, hb⟩; refine Hid.out ?_)
    refine hid ?_
    go_wp2
    go_ret
    exact ⟨by rw [h0]; rfl, hb.alloc hb.size _⟩
  · go_wp2_with (go_at_call 43; refine (read_well s _ HT.out hG h0).mono ?_; rintro e w1 ⟨v, rfl, hr, hb⟩; refine Hid.out ?_)
    refine hid ?_
    obtain ⟨sv, rfl, p, n, c, rfl⟩ := hr.shape
    have hno : nodeOf s = kindS 40 s.data.toList := by
      unfold nodeOf at h0 ⊢
      split at h0
      · rw [if_pos ‹_›]
      · exact absurd rfl h0
    have HNO := hid hno
    clear hno h0
    go_wp2
    go_ret
    exact ⟨by rw [HNO.out]; rfl, hb.alloc hb.size _⟩
end Go.Proofs.YtjaaplcgphlccaaGreatDoor
