/- Laid together: RpEq. -/
import Derived.Test.YtnkaabgjfdbdoaaGreatDoorShelfR
import Derived.Test.YtnkaabgjfdbdoaaGreatDoorPackMk
import Derived.Test.YtnkaabgjfdbdoaaGreatDoorMarks

namespace Go.Proofs.YtnkaabgjfdbdoaaGreatDoor
open Go.RowKit
open Go.Lib (hid)

theorem rp_drewN {B : Nat} {w : World} (q : Nat) : Below B w (w.drewN q) := ⟨rfl, rfl, rfl, Nat.le_refl _, fun _ _ => rfl⟩

theorem rp_inj {x t : List UInt8} (h : bytesOf x = bytesOf t) : x = t := by
  have := congrArg (fun b : ByteArray => b.data.toList) h
  simpa only [bytesOf_list] using this

theorem rp_map {ps qs : List (List UInt8)} : ps.map bytesOf = qs.map bytesOf ↔ ps = qs :=
  ⟨fun h => by
    induction ps generalizing qs with
    | nil => cases qs with
      | nil => rfl
      | cons _ _ => cases h
    | cons x xs ih => cases qs with
      | nil => cases h
      | cons y ys =>
        injection h with h1 h2
        rw [rp_inj h1, ih h2], fun h => by rw [h]⟩

theorem equal_texts (ps qs : List (List UInt8)) (hn : ps.length ≤ 1048576) (hm : qs.length ≤ 1048576) (a b : Value) (w : World) (ha : TextsAt w a ps) (hb : TextsAt w b qs) :
    Calls Tryz.prog 45 #[a, b] w fun e w' => e = .returned (.bool (decide (ps = qs))) ∧ Below w.heap.size w w' := by
  obtain ⟨p, c, rfl, hp⟩ := ha
  obtain ⟨q, d, rfl, hq⟩ := hb
  by_cases hl : ps.length = qs.length
  · cases ps with
    | nil =>
      refine (Tryz.slices_Equal_string_empty p q c qs.length d w (by omega)).mono fun e w' ⟨he, hw⟩ => ⟨?_, by rw [hw]; exact Below.refl _ _⟩
      rw [he]
      have : qs = [] := List.eq_nil_of_length_eq_zero hl.symm
      subst this
      rfl
    | cons x xs =>
      obtain ⟨g, rfl, hg, hc⟩ := hp (by simp)
      obtain ⟨g2, rfl, hg2, hc2⟩ := hq (fun h => by rw [h] at hl; cases hl)
      refine (Tryz.slices_Equal_string g 0 (x :: xs).length c g2 0 qs.length d ((x :: xs).map bytesOf) (qs.map bytesOf) w (by simp) (by simp) (by omega) (by omega) ?_ ?_).mono fun e w' ⟨he, k, hw⟩ => ⟨?_, by rw [hw]; exact rp_drewN k⟩
      · intro j hj
        rw [List.length_map] at hj
        rw [Nat.zero_add, hc j hj, List.getD_eq_getElem?_getD, List.getElem?_map, List.getElem?_eq_getElem hj]
        rfl
      · intro j hj
        rw [List.length_map] at hj
        rw [Nat.zero_add, hc2 j hj, List.getD_eq_getElem?_getD, List.getElem?_map, List.getElem?_eq_getElem hj]
        rfl
      · rw [he, List.take_of_length_le (by simp), List.take_of_length_le (by simp)]
        by_cases h : x :: xs = qs
        · rw [decide_eq_true (rp_map.2 h), decide_eq_true h]
        · rw [decide_eq_false (fun h2 => h (rp_map.1 h2)), decide_eq_false h]
  · refine (Tryz.slices_Equal_string_lens p q ps.length c qs.length d w hl).mono fun e w' ⟨he, hw⟩ => ⟨?_, by rw [hw]; exact Below.refl _ _⟩
    rw [he, decide_eq_false (fun h => hl (by rw [h]))]
end Go.Proofs.YtnkaabgjfdbdoaaGreatDoor
