/- Fold, the specification's. -/
import Derived.Test.YtgmgffbfpbkfmaaGreatDoorFoldPlain
import Derived.Test.YtgmgffbfpbkfmaaGreatDoorExtSpec
import Derived.Deep.RegionHeld3
namespace Go.Proofs.YtgmgffbfpbkfmaaGreatDoor
open Go.RowKit
open Go.Lib (hid)

def FoldPost (es : List EventD) (w : World) (e : Ending) (w' : World) : Prop :=
  ∃ sv, e = .returned (.tuple #[sv, .bool (foldOut es).2]) ∧ Below w.heap.size w w' ∧ w'.ownsRow w.heap.size 9 1 sv (foldOut es).1.length (strs (foldOut es).1)

set_option maxRecDepth 20000 in
set_option maxHeartbeats 2000000 in
theorem fold_spec (es : List EventD) (hs : ∀ e ∈ es, e.x1.size ≤ 1048576) (hn : es.length ≤ 1048576) (a : Value) (w : World) (ha : FRow encEvent 2 w a es) :
    Calls Tryz.prog 50 #[a] w (FoldPost es w) := by
  unfold FoldPost
  obtain ⟨p, c, rfl, _, hp⟩ := ha
  have HP := hid hp
  have HS := hid hs
  clear hp hs
  by_cases h60 : es.length ≤ 60
  · have HOUT : Hid (foldOut es = tellO (foldO (resets 8) es)) := hid (by unfold foldOut; rw [if_pos h60])
    have h60b : ¬ (es.length : Int) > 60 := by omega
    go_enter Tryz.func50, Tryz.ntmps50
    go_wp2_with (go_at_call 108; refine (specCleared_calls _).mono ?_; rintro e w1 ⟨sv1, rfl, hb1, ho1⟩; refine Hid.out ?_)
    refine hid ?_
    have HB1 := hid hb1
    have HO1 := hid ho1
    clear hb1 ho1
    go_wp2
    go_loopw [4, 5] (fun rv iv wr => ∃ i : Nat, ∃ q, i ≤ es.length ∧ iv = .int .i64 i ∧ Below w.heap.size w wr ∧ foldO (resets 8) (es.take i) = some q ∧ wr.ownsRow w.heap.size 9 1 rv q.length (strs q)) (fun _ iv _ => es.length - (RowKit.intOf iv).toNat)
    case atStart => exact ⟨0, _, Nat.zero_le _, rfl, HB1.out, rfl, HO1.out⟩
    case round =>
      obtain ⟨i, q, hi, rfl, hbel, hq, hown⟩ := hrel
      have HB := hid hbel
      have HO := hid hown
      have HQ := hid hq
      by_cases hlt : i < es.length
      · obtain ⟨g, o, rfl, hg, hc⟩ := HP.out (fun h => by rw [h] at hlt; cases hlt)
        have hr := fold_regs _ _ _ resets_regs hq
        obtain ⟨hq8, hq4⟩ := reg_short hr
        have hx1 := HS.out es[i] (List.getElem_mem hlt)
        have HN := hid (foldO_succ (resets 8) es i hlt hq)
        have HF := hid (fun (h : foldO (resets 8) (es.take (i + 1)) = none) => foldO_fell (resets 8) es (i + 1) h)
        have k0 : ∀ W : World, Below wr.heap.size wr W → W.cell? ⟨g, o + i * 2, none⟩ = some (.int .i64 es[i].x0) := fun W hW => (hW.cell (p := ⟨g, o + i * 2, none⟩) (Nat.lt_of_lt_of_le hg hbel.size)).trans ((hbel.cell (p := ⟨g, o + i * 2, none⟩) hg).trans (hc i hlt 0 (by decide)))
        have k1 : ∀ W : World, Below wr.heap.size wr W → W.cell? ⟨g, o + i * 2 + 1, none⟩ = some (.string es[i].x1) := fun W hW => (hW.cell (p := ⟨g, o + i * 2 + 1, none⟩) (Nat.lt_of_lt_of_le hg hbel.size)).trans ((hbel.cell (p := ⟨g, o + i * 2 + 1, none⟩) hg).trans (hc i hlt 1 (by decide)))
        have CE := hid (fun (W : World) (hW : Below wr.heap.size wr W) => ext_spec q (fun p hp => by have := hq4 p hp; omega) (by omega) es[i].x0 es[i].x1 hx1 _ W ((texts_of hown).on hW))
        unfold ExtPost at CE
        obtain ⟨pq, cq, rfl⟩ := row_shape hown
        have b1 : (0 : Int) ≤ (i : Int) := by omega
        have b2 : (i : Int) < (es.length : Int) := by omega
        clear hc hbel hown hq hr hq8 hq4 hx1
        generalize es[i] = ei at *
        obtain ⟨x0, x1⟩ := ei
        dsimp only at *
        generalize (extOut q x0 x1.data.toList).2 = b at *
        generalize (extOut q x0 x1.data.toList).1 = L at *
        go_wp2
        go_region_held3 (fun w' => Below wr.heap.size wr w') (first | with_reducible assumption | exact Below.drew (Below.refl _ _) | exact below_hop (by assumption) (by simp) (by assumption)) ((go_at_call 109; refine (CE.out _ (by assumption)).mono ?_; rintro e w5 ⟨sv, rfl, hb5, ho5⟩))
        rename_i hS
        have hsz := hS.size
        have HS5 := hid (HB.out.trans (hS.mono HB.out.size))
        have HO5 := hid ho5
        clear hS hb5 ho5 k0 k1
        cases b with
        | false =>
          have HX : Hid (foldO (resets 8) es = none) := hid (HF.out HN.out)
          go_wp2
          go_ret2
          rw [HOUT.out, HX.out]
          exact ⟨_, rfl, HS5.out.alloc HS5.out.size _, ⟨rfl, Or.inr ⟨_, 0, _, rfl, HS5.out.size, heap_alloc_new _ _, Nat.le_refl _, Nat.zero_le _, rfl, rfl⟩⟩⟩
        | true =>
          go_wp2
          go_roundw
          case rel => exact ⟨i + 1, L, by omega, by go_num, HS5.out, HN.out, own_base HO5.out HB.out.size⟩
          case measure => simp [RowKit.intOf]; omega
      · have hie : i = es.length := by omega
        subst hie
        go_wp2
        go_ret2
        have hq2 : foldO (resets 8) es = some q := by have := HQ.out; rw [List.take_of_length_le (Nat.le_refl _)] at this; exact this
        rw [HOUT.out, hq2]
        exact ⟨_, rfl, HB.out, HO.out⟩
  · have HOUT : Hid (foldOut es = ([], false)) := hid (by unfold foldOut; rw [if_neg h60])
    have h60b : (es.length : Int) > 60 := by omega
    rw [HOUT.out]
    go_enter Tryz.func50, Tryz.ntmps50
    go_wp2_with (go_at_call 108; refine (specCleared_calls _).mono ?_; rintro e w1 ⟨sv1, rfl, hb1, ho1⟩; refine Hid.out ?_)
    refine hid ?_
    have HB1 := hid hb1
    clear hb1 ho1
    go_wp2
    go_ret2
    exact ⟨_, rfl, HB1.out.alloc HB1.out.size _, ⟨rfl, Or.inr ⟨w1.heap.size, 0, _, rfl, HB1.out.size, heap_alloc_new _ _, Nat.le_refl _, Nat.zero_le _, rfl, rfl⟩⟩⟩
end Go.Proofs.YtgmgffbfpbkfmaaGreatDoor
