/- Is a text in a list: the specification's. -/
import Derived.Test.YtjaaplcgphlccaaGreatDoorPackRelI
import Derived.Test.YtjaaplcgphlccaaGreatDoorArgTexts
import Derived.BigQuiet
namespace Go.Proofs.YtjaaplcgphlccaaGreatDoor
open Go.RowKit
open Go.Lib (hid)

theorem hsame_bytes (x : List UInt8) (t : List UInt8) : ((bytesOf x).toList == (bytesOf t).toList) = decide (x = t) := by
  rw [Lib.toList_data, Lib.toList_data, bytesOf_list, bytesOf_list, Bool.eq_iff_iff, beq_iff_eq, decide_eq_true_iff]

set_option maxRecDepth 20000 in
set_option maxHeartbeats 4000000 in
theorem lhas_spec (ps : List (List UInt8)) (hm : ps.length ≤ 1048576) (t : List UInt8) (b : Value) (w : World) (hb : TextsAt w b ps) :
    Calls Tryz.prog 22 #[b, .string (bytesOf t)] w fun e w' => e = .returned (.bool (decide (t ∈ ps))) ∧ Below w.heap.size w w' := by
  have HE := hid hb
  obtain ⟨q, d, rfl, hrest⟩ := hb
  clear hrest
  have HTT := hid (fun x => hsame_bytes x t)
  obtain ⟨y, hy⟩ : ∃ y, bytesOf t = y := ⟨_, rfl⟩
  rw [hy] at HTT ⊢
  clear hy
  go_enter Tryz.func22, Tryz.ntmps22
  go_wp2
  go_loopw [5] (fun iv wr => ∃ i : Nat, i ≤ ps.length ∧ iv = .int .i64 i ∧ Below w.heap.size w wr ∧ Hid (t ∉ ps.take i)) (fun iv _ => ps.length - (RowKit.intOf iv).toNat)
  case atStart => exact ⟨0, Nat.zero_le _, rfl, Below.refl _ _, hid (by simp)⟩
  case round =>
    obtain ⟨i, hi, rfl, hbel, HN⟩ := hrel
    have HB := hid hbel
    by_cases hlt : i < ps.length
    · have hne : ps ≠ [] := fun h => by rw [h] at hlt; cases hlt
      obtain ⟨q', d', hv, hp⟩ := HE.out
      obtain ⟨rfl, rfl⟩ : q = q' ∧ d = d' := by injection hv with h1 h2 h3; exact ⟨h1, by omega⟩
      obtain ⟨g, rfl, hg, hc⟩ := hp hne
      clear hv hp
      have b1 : (0 : Int) ≤ (i : Int) := by omega
      have b2 : (i : Int) < (ps.length : Int) := by omega
      have m0 := (hbel.cell (p := ⟨g, i, none⟩) hg).trans (hc i hlt)
      have HTK : Hid (ps.take (i + 1) = ps.take i ++ [ps[i]]) := hid (List.take_succ_eq_append_getElem hlt)
      have HIN : Hid (ps[i] ∈ ps) := hid (List.getElem_mem hlt)
      clear hc hbel
      generalize ps[i] = x at *
      rw [show (⟨x.toArray⟩ : ByteArray) = bytesOf x from rfl] at m0
      have hxt := HTT.out x
      generalize bytesOf x = X at *
      by_cases hx : x = t
      · subst hx
        rw [decide_eq_true rfl] at hxt
        go_wp2
        go_ret
        exact ⟨by rw [decide_eq_true HIN.out] <;> rfl, HB.out⟩
      · rw [decide_eq_false hx] at hxt
        have HX := hid hx
        clear hx
        go_wp2
        go_roundw
        case rel => exact ⟨i + 1, by omega, by go_num, HB.out, hid (by rw [HTK.out]; simp only [List.mem_append, List.mem_singleton, not_or]; exact ⟨HN.out, fun e => HX.out e.symm⟩)⟩
        case measure => simp [RowKit.intOf]; omega
    · have hie : i = ps.length := by omega
      subst hie
      have hn := HN.out
      rw [List.take_of_length_le (Nat.le_refl _)] at hn
      have HN2 := hid hn
      clear hn
      go_wp2
      go_ret
      exact ⟨by rw [decide_eq_false HN2.out] <;> rfl, HB.out⟩
end Go.Proofs.YtjaaplcgphlccaaGreatDoor
