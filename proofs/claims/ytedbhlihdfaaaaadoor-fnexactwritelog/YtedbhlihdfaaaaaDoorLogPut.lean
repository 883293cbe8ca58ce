/- A number put behind a row of bytes: the specification's and the program's. -/
import Derived.Test.YtedbhlihdfaaaaaDoorLogPlain
namespace Go.Proofs.YtedbhlihdfaaaaaDoor
open Go.RowKit
open Go.Lib (hid)

set_option maxRecDepth 20000 in
set_option maxHeartbeats 4000000 in
theorem put_spec (n : Nat) (hn : n ≤ 1048576) (l : List Int) (hl : l.length ≤ 900000000) (base : Nat) (a : Value) (w : World) (hbase : base ≤ w.heap.size) (h : BRow w base a l) :
    Calls Tryd.prog 100 #[a, .int .i64 n] w fun e w' => ∃ v, e = .returned v ∧ Longer w w' a v ∧ w'.ownsRow base 5 1 v (l ++ sevB 3 n).length (bys (l ++ sevB 3 n)) := by
  have HA := hid h
  clear h
  go_enter Tryd.func100, Tryd.ntmps100
  go_wp2
  go_loopw [0, 1] (fun ov nv wr => ∃ (f m : Nat) (d : List Int), nv = .int .i64 m ∧ Hid (Longer w wr a ov) ∧ Hid (BRow wr base ov (l ++ d)) ∧ Hid (d ++ sevB f m = sevB 3 n) ∧ d.length + f = 3 ∧ Hid (m < 128 ^ (f + 1))) (fun _ nv _ => (RowKit.intOf nv).toNat)
  case atStart => exact ⟨3, n, [], rfl, hid (Longer.refl _ _), by rw [List.append_nil]; exact HA, hid rfl, rfl, hid (Nat.lt_of_le_of_lt hn (by decide))⟩
  case round =>
    obtain ⟨f, m, d, rfl, HL, HO, HD, hdf, HMM⟩ := hrel
    have hm := HMM.out
    have hzr : w.heap.size ≤ wr.heap.size := HL.out.touch.size
    by_cases hge : m < 128
    · have hgi : ¬ (m : Int) ≥ 128 := by omega
      have hdn : d ++ [(m : Int)] = sevB 3 n := by rw [← HD.out, sevB_last f m hge]
      have HDN := hid hdn
      clear hdn hm
      go_wp2_with (at_builtin; refine wp_append_brow rfl _ _ rfl base _ _ rfl (HO.out.alloc _) ⟨wr.heap.size, 0, none⟩ 1 (m : Int) rfl ((cell_of_row _ _ 0 _ _ _ (heap_alloc_new wr _)).trans rfl) (by first | omega | (rw [List.length_append]; omega) | (simp; omega)) (by first | omega | (simp; omega)) ?_)
      intro v' w' ho' hg' hv'
      have HO2 := hid ho'
      have HL2 := hid ((HL.out.grow ((Below.refl _ _).alloc (Nat.le_refl _) _)).step hg' (hv'.imp id fun h => by rw [h]; simp))
      clear ho' hg' hv'
      go_wp2
      go_ret
      exact ⟨_, rfl, HL2.out, by rw [← HDN.out]; first | exact HO2.out | simpa using HO2.out⟩
    · have hgi : (m : Int) ≥ 128 := by omega
      obtain ⟨g, rfl⟩ : ∃ g, f = g + 1 := by
        cases f with
        | zero => simp at hm; omega
        | succ g => exact ⟨g, rfl⟩
      have HDN := hid (show (d ++ [(m : Int) % 128 + 128]) ++ sevB g (m / 128) = sevB 3 n by rw [← HD.out, sevB_more g m hge, List.append_assoc]; rfl)
      have hm2 : m / 128 < 128 ^ (g + 1) := by
        rw [Nat.pow_succ] at hm
        exact Nat.div_lt_of_lt_mul (by rw [Nat.mul_comm]; exact hm)
      have hmb : m ≤ 268435456 := by
        have h1 : 128 ^ (g + 1 + 1) ≤ 128 ^ 4 := Nat.pow_le_pow_right (by omega) (by omega)
        have h2 : (128 : Nat) ^ 4 = 268435456 := by decide
        omega
      have HM := hid hm2
      clear hm hm2
      go_wp2_with (at_builtin; refine wp_append_brow rfl _ _ rfl base _ _ rfl (HO.out.alloc _) ⟨wr.heap.size, 0, none⟩ 1 ((m : Int) % 128 + 128) rfl ((cell_of_row _ _ 0 _ _ _ (heap_alloc_new wr _)).trans rfl) (by first | omega | (rw [List.length_append]; omega) | (simp; omega)) (by first | omega | (simp; omega)) ?_)
      intro v' w' ho' hg' hv'
      have HO2 := hid ho'
      have HL2 := hid ((HL.out.grow ((Below.refl _ _).alloc (Nat.le_refl _) _)).step hg' (hv'.imp id fun h => by rw [h]; simp))
      clear ho' hg' hv'
      go_wp2
      go_roundw
      case rel => exact ⟨g, m / 128, d ++ [(m : Int) % 128 + 128], by first | rfl | (simp; done) | (simp; omega) | go_num, HL2, by first | exact hid (.inl HO2.out) | exact hid (.inl (by simpa using HO2.out)), HDN, by rw [List.length_append]; simp; omega, HM⟩
      case measure => simp [RowKit.intOf]; omega

set_option maxRecDepth 20000 in
set_option maxHeartbeats 4000000 in
theorem put_impl (n : Nat) (hn : n ≤ 1048576) (l : List Int) (hl : l.length ≤ 900000000) (base : Nat) (a : Value) (w : World) (hbase : base ≤ w.heap.size) (h : BRow w base a l) :
    Calls Tryd.prog 102 #[a, .int .i64 n] w fun e w' => ∃ v, e = .returned v ∧ Longer w w' a v ∧ w'.ownsRow base 5 1 v (l ++ sevB 3 n).length (bys (l ++ sevB 3 n)) := by
  have HA := hid h
  clear h
  go_enter Tryd.func102, Tryd.ntmps102
  go_wp2
  go_loopw [0, 1] (fun ov nv wr => ∃ (f m : Nat) (d : List Int), nv = .int .i64 m ∧ Hid (Longer w wr a ov) ∧ Hid (BRow wr base ov (l ++ d)) ∧ Hid (d ++ sevB f m = sevB 3 n) ∧ d.length + f = 3 ∧ Hid (m < 128 ^ (f + 1))) (fun _ nv _ => (RowKit.intOf nv).toNat)
  case atStart => exact ⟨3, n, [], rfl, hid (Longer.refl _ _), by rw [List.append_nil]; exact HA, hid rfl, rfl, hid (Nat.lt_of_le_of_lt hn (by decide))⟩
  case round =>
    obtain ⟨f, m, d, rfl, HL, HO, HD, hdf, HMM⟩ := hrel
    have hm := HMM.out
    have hzr : w.heap.size ≤ wr.heap.size := HL.out.touch.size
    by_cases hge : m < 128
    · have hgi : ¬ (m : Int) ≥ 128 := by omega
      have hdn : d ++ [(m : Int)] = sevB 3 n := by rw [← HD.out, sevB_last f m hge]
      have HDN := hid hdn
      clear hdn hm
      go_wp2_with (at_builtin; refine wp_append_brow rfl _ _ rfl base _ _ rfl (HO.out.alloc _) ⟨wr.heap.size, 0, none⟩ 1 (m : Int) rfl ((cell_of_row _ _ 0 _ _ _ (heap_alloc_new wr _)).trans rfl) (by first | omega | (rw [List.length_append]; omega) | (simp; omega)) (by first | omega | (simp; omega)) ?_)
      intro v' w' ho' hg' hv'
      have HO2 := hid ho'
      have HL2 := hid ((HL.out.grow ((Below.refl _ _).alloc (Nat.le_refl _) _)).step hg' (hv'.imp id fun h => by rw [h]; simp))
      clear ho' hg' hv'
      go_wp2
      go_ret
      exact ⟨_, rfl, HL2.out, by rw [← HDN.out]; first | exact HO2.out | simpa using HO2.out⟩
    · have hgi : (m : Int) ≥ 128 := by omega
      obtain ⟨g, rfl⟩ : ∃ g, f = g + 1 := by
        cases f with
        | zero => simp at hm; omega
        | succ g => exact ⟨g, rfl⟩
      have HDN := hid (show (d ++ [(m : Int) % 128 + 128]) ++ sevB g (m / 128) = sevB 3 n by rw [← HD.out, sevB_more g m hge, List.append_assoc]; rfl)
      have hm2 : m / 128 < 128 ^ (g + 1) := by
        rw [Nat.pow_succ] at hm
        exact Nat.div_lt_of_lt_mul (by rw [Nat.mul_comm]; exact hm)
      have hmb : m ≤ 268435456 := by
        have h1 : 128 ^ (g + 1 + 1) ≤ 128 ^ 4 := Nat.pow_le_pow_right (by omega) (by omega)
        have h2 : (128 : Nat) ^ 4 = 268435456 := by decide
        omega
      have HM := hid hm2
      clear hm hm2
      go_wp2_with (at_builtin; refine wp_append_brow rfl _ _ rfl base _ _ rfl (HO.out.alloc _) ⟨wr.heap.size, 0, none⟩ 1 ((m : Int) % 128 + 128) rfl ((cell_of_row _ _ 0 _ _ _ (heap_alloc_new wr _)).trans rfl) (by first | omega | (rw [List.length_append]; omega) | (simp; omega)) (by first | omega | (simp; omega)) ?_)
      intro v' w' ho' hg' hv'
      have HO2 := hid ho'
      have HL2 := hid ((HL.out.grow ((Below.refl _ _).alloc (Nat.le_refl _) _)).step hg' (hv'.imp id fun h => by rw [h]; simp))
      clear ho' hg' hv'
      go_wp2
      go_roundw
      case rel => exact ⟨g, m / 128, d ++ [(m : Int) % 128 + 128], by first | rfl | (simp; done) | (simp; omega) | go_num, HL2, by first | exact hid (.inl HO2.out) | exact hid (.inl (by simpa using HO2.out)), HDN, by rw [List.length_append]; simp; omega, HM⟩
      case measure => simp [RowKit.intOf]; omega
end Go.Proofs.YtedbhlihdfaaaaaDoor
