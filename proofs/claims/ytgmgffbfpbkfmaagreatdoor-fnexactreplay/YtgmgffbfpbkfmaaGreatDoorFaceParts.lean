/- PartsOf, the program's face. -/
import Derived.Test.YtgmgffbfpbkfmaaGreatDoorFacePartsS
namespace Go.Proofs.YtgmgffbfpbkfmaaGreatDoor
open Go.RowKit
open Go.Lib (hid)

set_option maxRecDepth 20000 in
set_option maxHeartbeats 1000000 in
theorem parts_impl (s : ByteArray) (w : World) (hT : Tab w) (hG : 0 < w.heap.size) :
    Calls Tryz.prog 187 #[.string s] w fun e w' => ∃ sv, e = .returned sv ∧ Below w.heap.size w w' ∧ w'.ownsRow w.heap.size 9 1 sv (nodeOf s).2.length (strs (nodeOf s).2) := by
  have HT := hid hT
  clear hT
  obtain ⟨kk, ps, hnd⟩ : ∃ kk ps, nodeOf s = (kk, ps) := ⟨_, _, rfl⟩
  have h2 : (nodeOf s).2 = ps := by rw [hnd]
  have h1 : (nodeOf s).1 = kk := by rw [hnd]
  rw [h2]
  by_cases h0 : (nodeOf s).1 = 0
  · have hz : ps = [] := by rw [← h2]; exact nodeOf_none s h0
    have H0 := hid h0
    subst hz
    clear h0 h1 h2 hnd
    go_enter Tryz.func187, Tryz.ntmps187
    go_wp2_with (go_at_call 113; refine (read_none s _ HT.out hG H0.out).mono ?_; rintro e w1 ⟨rfl, hb⟩; refine Hid.out ?_)
    refine hid ?_
    go_wp2
    go_loopw [5, 16] (fun pv iv wr => pv = .slice none 0 0 ∧ iv = .int .i64 0 ∧ Below w.heap.size w wr) (fun _ _ _ => 0)
    case atStart => exact ⟨rfl, rfl, (hb.alloc hb.size _)⟩
    case round =>
      obtain ⟨rfl, rfl, hbel⟩ := hrel
      go_wp2
      go_ret
      exact ⟨_, rfl, hbel, World.ownsRow_nil _ _ _ _⟩
  · have hno : nodeOf s = kindS 40 s.data.toList := by
      unfold nodeOf at h0 ⊢
      split at h0
      · rw [if_pos ‹_›]
      · exact absurd rfl h0
    have hfew := kindS_parts_few 40 s.data.toList
    rw [← hno, h2] at hfew
    have hk40 : (kindS 40 s.data.toList).1 = kk := by rw [← hno]; exact h1
    have hp40 : (kindS 40 s.data.toList).2 = ps := by rw [← hno]; exact h2
    have H0 := hid h0
    have HK := hid hk40
    have HP := hid hp40
    clear hno hk40 hp40 h0 h1 h2 hnd
    go_enter Tryz.func187, Tryz.ntmps187
    go_wp2_with (go_at_call 113; refine (read_well s _ HT.out hG H0.out).mono ?_; rintro e w1 ⟨v, rfl, hr, hb⟩; refine Hid.out ?_)
    refine hid ?_
    obtain ⟨sv, hv, hrow⟩ := hr
    rw [show 39 + 1 = 40 from rfl, HP.out] at hrow
    rw [show 39 + 1 = 40 from rfl, HK.out] at hv
    subst hv
    rcases hrow with ⟨hnil, rfl⟩ | ⟨g, cap, rfl, hS, hcells⟩
    · subst hnil
      go_wp2
      go_loopw [5, 16] (fun pv iv wr => pv = .slice none 0 0 ∧ iv = .int .i64 0 ∧ Below w.heap.size w wr) (fun _ _ _ => 0)
      case atStart => exact ⟨rfl, rfl, (hb.alloc hb.size _)⟩
      case round =>
        obtain ⟨rfl, rfl, hbel⟩ := hrel
        go_wp2
        go_ret
        exact ⟨_, rfl, hbel, World.ownsRow_nil _ _ _ _⟩
    · have HC := hid hcells
      clear hcells
      obtain ⟨hgb, hgl⟩ := hS
      have HB := hid hb
      have hsz := hb.size
      clear hb
      go_wp2
      go_loopw [5, 16] (fun pv iv wr => ∃ i : Nat, i ≤ ps.length ∧ iv = .int .i64 i ∧ Took w.heap.size ps w1 i pv wr) (fun _ iv _ => ps.length - (RowKit.intOf iv).toNat)
      case atStart => exact ⟨0, Nat.zero_le _, rfl, ⟨((Below.refl _ _).alloc (Nat.le_refl _) _), World.ownsRow_nil _ _ _ _⟩⟩
      case round =>
        obtain ⟨i, hi, rfl, htook⟩ := hrel
        have hbel := htook.below
        have hown := htook.own
        have hszr := hbel.size
        clear htook
        by_cases hlt : i < ps.length
        · obtain ⟨c0, c1, c2, e0, e1, e2, hrep⟩ := HC.out i hlt
          obtain ⟨sv, hagg, p, m, c, hsv⟩ := hrep.shape
          subst hsv
          have hq := hagg
          simp only [Value.agg.injEq, Array.mk.injEq, List.cons.injEq, and_true] at hq
          obtain ⟨rfl, rfl, rfl⟩ := hq
          rw [← hbel.cell (p := ⟨g, i * 3, none⟩) hgl] at e0
          rw [← hbel.cell (p := ⟨g, i * 3 + 1, none⟩) hgl] at e1
          rw [← hbel.cell (p := ⟨g, i * 3 + 2, none⟩) hgl] at e2
          have hgr : g < wr.heap.size := Nat.lt_of_lt_of_le hgl hszr
          clear hagg hrep
          have HBel := hid hbel
          have HO := hid hown
          clear hbel hown
          generalize (kindS 39 ps[i]).1 = kq at *
          obtain ⟨x, hx⟩ : ∃ x : ByteArray, x = ⟨ps[i].toArray⟩ := ⟨_, rfl⟩
          rw [← hx] at e1
          have HX := hid hx
          clear hx
          have hown := HO.out
          go_wp2_with (at_builtin; refine wp_append_str rfl _ _ rfl w1.heap.size _ _ _ rfl ((hown.alloc _).alloc _) ⟨wr.heap.size + 1, 0, none⟩ 1 x rfl ?c1 ?c2 ?c3 ?_)
          case c1 => simp [go_sem]
          case c2 => omega
          case c3 => simp; omega
          intro out' w5 hown' hgrow _
          have hbel : Below w1.heap.size w1 w5 := (((HBel.out.alloc hszr _).alloc (by simp; omega) _).grown hgrow (by simp; omega) (fun k hk => (hown.lt k hk).1))
          have HN := hid hbel
          have HM := hid hown'
          clear hown' hgrow hown hbel
          go_wp2
          go_roundw
          case rel => exact ⟨i + 1, by omega, by go_num, ⟨HN.out, by rw [strs_take_succ ps i hlt, ← HX.out]; exact HM.out⟩⟩
          case measure => simp [RowKit.intOf]; omega
        · have hie : i = ps.length := by omega
          subst hie
          have HBel := hid hbel
          have HO := hid hown
          clear hbel hown
          go_wp2
          go_ret
          refine ⟨_, rfl, HB.out.trans (HBel.out.mono hsz), ?_⟩
          have := own_base HO.out hsz
          rw [List.take_of_length_le (Nat.le_refl _)] at this
          exact this
end Go.Proofs.YtgmgffbfpbkfmaaGreatDoor
