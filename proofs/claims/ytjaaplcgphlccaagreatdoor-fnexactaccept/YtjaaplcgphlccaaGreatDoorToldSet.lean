/- A set of texts told, rising: the program's told. -/
import Derived.Test.YtjaaplcgphlccaaGreatDoorShelfI
import Derived.Test.YtjaaplcgphlccaaGreatDoorPackRelI
import Derived.Sort.KeysCollected
namespace Go.Proofs.YtjaaplcgphlccaaGreatDoor
open Go.RowKit Go.WideMaps Go.Maps
open Go.Lib (hid)

theorem rising_sorted {ts : List (List UInt8)} (h : ts.Pairwise (fun a b => a < b)) : ts.mergeSort (fun x y => decide (x ≤ y)) = ts :=
  List.mergeSort_of_pairwise (h.imp (fun hab => decide_eq_true (List.le_of_lt hab)))

theorem sorted_keys {H : Type} {D : DataW H} {R : Value → Option (DataW H × List MemPlace)} {w : World} {s n : Nat} (ho : w.ownsMap Tryz.prog 9 R s n D) {ts ss : List (List UInt8)} (ht : ts.Pairwise (fun a b => a < b)) (hD : ∀ x, has D (.string x) = true ↔ x ∈ ts) (hp : ss.Perm (strKeys D)) : ss.mergeSort (fun x y => decide (x ≤ y)) = ts := by
  have hc : Collected D (fun _ => false) ts := ⟨ht.imp (fun hab => fun e => by rw [e] at hab; exact List.lt_irrefl _ hab), fun x => by rw [hD x]; simp⟩
  have h2 := hc.perm ho setKeyed Tryz.underlying9 (fun _ => rfl)
  have h3 := mergeSort_of_perm (hp.trans h2.symm)
  exact h3.trans (rising_sorted ht)

set_option maxRecDepth 20000 in
set_option maxHeartbeats 2000000 in
theorem told_calls {H : Type} (D : DataW H) (R : Value → Option (DataW H × List MemPlace)) (s n : Nat) (w : World) (ho : w.ownsMap Tryz.prog 9 R s n D) (hn : Maps.size D ≤ 1048576) (ts : List (List UInt8)) (ht : ts.Pairwise (fun a b => a < b)) (hD : ∀ x, has D (.string x) = true ↔ x ∈ ts) :
    Calls Tryz.prog 56 #[.map (some s)] w fun e w' => ∃ v, e = .returned v ∧ Below w.heap.size w w' ∧ w'.ownsRow w.heap.size 9 1 v ts.length (strs ts) := by
  have HO := hid ho
  have HS := hid (fun (ss : List (List UInt8)) (hp : ss.Perm (strKeys D)) => sorted_keys ho ht hD hp)
  have CK := hid (callsIn_wide.1 (Tryz.maps_Keys_79 (some s) w))
  have CS := hid (callsIn_wide.1 (Tryz.slices_Sorted_keys_78_79 s n D R w ho (by unfold maxLen; omega) (by omega)))
  clear ho hD
  go_enter Tryz.func56, Tryz.ntmps56
  go_wp2_with (first
    | (go_at_call 79; refine CK.out.mono ?_; rintro e w1 ⟨rfl, rfl⟩)
    | (go_at_call 78; refine CS.out.mono ?_; rintro e w2 ⟨v, ss, rfl, hp, hrow, _, hb⟩; refine Hid.out ?_))
  refine hid ?_
  have hms := HS.out ss hp
  have hl : ss.length = ts.length := by rw [← hms]; simp
  have HR : Hid (w2.ownsRow w.heap.size 9 1 v ts.length (strs ts)) := hid (by
    rw [hms, hl] at hrow
    exact own_base hrow (by simp))
  have HB := hid (((Below.refl w.heap.size w).alloc (Nat.le_refl _) (.cells #[.map (some s)] 49)).trans (hb.mono (by simp)))
  clear hp hrow hb hms hl
  go_wp2
  go_ret
  exact ⟨v, rfl, HB.out, HR.out⟩
end Go.Proofs.YtjaaplcgphlccaaGreatDoor
