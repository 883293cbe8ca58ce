/- The specification's NvRead, whole. -/
import Derived.Test.YtknipcnlaaapoaaNvSpecRead
namespace Go.Proofs.Ytknipcnlaaapoaa
open Go.RowKit
open Go.Lib (hid)

theorem row_mid {w : World} {g o c : Nat} {L : List Int} {h : Nat} (hL : L.length = h) (hr : RowIn w (.slice (some ⟨g, o, none⟩) h c) L) (h3 : 3 ≤ h) : RowIn w (.slice (some ⟨g, o + 1, none⟩) (cpN L).length (c - 1)) (cpN L) := by
  subst hL
  have h1 := row_drop hr 1 (by omega)
  have e : (cpN L).length = L.length - 2 := by unfold cpN; simp; omega
  rw [e]
  have h2 : RowIn w (.slice (some ⟨g, o + 1, none⟩) (L.drop 1).length (c - 1)) (L.drop 1) := by rw [List.length_drop]; exact h1
  exact row_take h2 (L.length - 2) (by rw [List.length_drop]; omega)

theorem own_empty (w : World) (base : Nat) (hb : base ≤ w.heap.size) : (w.alloc (.cells #[] 2)).ownsRow base 2 1 (.slice (some ⟨w.heap.size, 0, none⟩) 0 0) 0 [] := World.ownsRow_made w #[] 0 hb (Nat.zero_le _) rfl

theorem specRead_ill (size : Int) (ws : List Int) (hn : ws.length ≤ 1048576) (hf : formB size ws = false) (a : Value) (w : World) (ha : RowIn w a ws) :
    Calls Try.prog 26 #[.agg #[.int .i64 size, a]] w fun e w' => ∃ sv, e = .returned (.tuple #[sv, .int .i64 0, .bool false]) ∧ Below w.heap.size w w' ∧ w'.ownsRow w.heap.size 2 1 sv 0 [] := by
  have HA := hid ha
  have CF := hid (fun a W (hW : RowIn W a ws) => l3Formed_calls size ws hn a W hW)
  rw [hf] at CF
  obtain ⟨p, c, rfl, hc, _⟩ := ha
  have HW : Hid (Below w.heap.size w (w.alloc (.cells #[.int .i64 size, .slice p ws.length c] 26))) := hid ((Below.refl _ _).alloc (Nat.le_refl _) _)
  go_enter Try.func26, Try.ntmps26
  go_wp2_with (go_at_call 30; refine (CF.out _ _ (HA.out.on HW.out)).mono ?_; rintro e w1 ⟨rfl, hb1⟩; have HB1 := hid (HW.out.trans (hb1.mono HW.out.size)); clear hb1)
  go_ret3
  exact ⟨_, rfl, HB1.out.alloc HB1.out.size _, own_empty w1 _ HB1.out.size⟩

set_option maxRecDepth 20000 in
set_option maxHeartbeats 1000000 in
theorem specRead_none (m h : Nat) (hh : h = m + 2) (h1 : 1 ≤ m) (h20 : m ≤ 20) (ws : List Int) (hws : ws.length = 2 * h) (hnb : Numb ws) (hst : (bestOf ws h 2).1 < 0) (a : Value) (w : World) (ha : RowIn w a ws) :
    Calls Try.prog 26 #[.agg #[.int .i64 m, a]] w fun e w' => ∃ sv, e = .returned (.tuple #[sv, .int .i64 0, .bool false]) ∧ Below w.heap.size w w' ∧ w'.ownsRow w.heap.size 2 1 sv 0 [] := by
  have HA := hid ha
  have CF := hid (fun a W (hW : RowIn W a ws) => l3Formed_calls m ws (by omega) a W hW)
  rw [formB_iff.2 ⟨by omega, by omega, by omega, hnb⟩] at CF
  have CS := hid (fun a W (hW : RowIn W a ws) => l3Stands_calls m h hh h1 h20 ws hws hnb a W hW)
  generalize (bestOf ws h 2).1 = b at *
  obtain ⟨p, c, rfl, hc, _⟩ := ha
  have HW : Hid (Below w.heap.size w (w.alloc (.cells #[.int .i64 m, .slice p ws.length c] 26))) := hid ((Below.refl _ _).alloc (Nat.le_refl _) _)
  clear hh hws hnb
  go_enter Try.func26, Try.ntmps26
  go_wp2_with (go_at_call 30; refine (CF.out _ _ (HA.out.on HW.out)).mono ?_; rintro e w1 ⟨rfl, hb1⟩; refine Hid.out ?_)
  refine hid ?_
  have k0 := hb1.cell (p := ⟨w.heap.size, 0, none⟩) (by simp)
  have k1 := hb1.cell (p := ⟨w.heap.size, 1, none⟩) (by simp)
  have HB1 := hid (HW.out.trans (hb1.mono HW.out.size))
  clear hb1
  go_wp2_with (go_at_call 28; refine (CS.out _ _ (HA.out.on HB1.out)).mono ?_; rintro e w2 ⟨rfl, hb2⟩; have HB2 := hid (HB1.out.trans (hb2.mono HB1.out.size)); clear hb2)
  go_ret3
  exact ⟨_, rfl, HB2.out.alloc HB2.out.size _, own_empty w2 _ HB2.out.size⟩

set_option maxRecDepth 20000 in
set_option maxHeartbeats 2000000 in
theorem specRead_yes (m h : Nat) (hh : h = m + 2) (h1 : 1 ≤ m) (h20 : m ≤ 20) (ws : List Int) (hws : ws.length = 2 * h) (hnb : Numb ws) (i : Nat) (hi : i = 0 ∨ i = 1) (hst : (bestOf ws h 2).1 = i) (a : Value) (w : World) (ha : RowIn w a ws) :
    Calls Try.prog 26 #[.agg #[.int .i64 m, a]] w fun e w' => ∃ sv, e = .returned (.tuple #[sv, .int .i64 (cpC (copyOf ws h i)), .bool true]) ∧ Below w.heap.size w w' ∧ w'.ownsRow w.heap.size 2 1 sv (cpN (copyOf ws h i)).length (ints (cpN (copyOf ws h i))) := by
  have HA := hid ha
  have CF := hid (fun a W (hW : RowIn W a ws) => l3Formed_calls m ws (by omega) a W hW)
  rw [formB_iff.2 ⟨by omega, by omega, by omega, hnb⟩] at CF
  have CS := hid (fun a W (hW : RowIn W a ws) => l3Stands_calls m h hh h1 h20 ws hws hnb a W hW)
  rw [hst] at CS
  have CP := hid (fun a W (hW : RowIn W a ws) => l3Copy_calls m h i hh h1 h20 hi ws hws a W hW)
  have hL := copyOf_len ws h i hws
  have h3 : 3 ≤ h := by omega
  have h22 : h ≤ 22 := by omega
  have hml : (cpN (copyOf ws h i)).length = h - 2 := by unfold cpN; simp; omega
  obtain ⟨p, c, rfl, hc, _⟩ := ha
  have HW : Hid (Below w.heap.size w (w.alloc (.cells #[.int .i64 m, .slice p ws.length c] 26))) := hid ((Below.refl _ _).alloc (Nat.le_refl _) _)
  clear hh hws hnb hst
  generalize copyOf ws h i = L at *
  go_enter Try.func26, Try.ntmps26
  go_wp2_with (go_at_call 30; refine (CF.out _ _ (HA.out.on HW.out)).mono ?_; rintro e w1 ⟨rfl, hb1⟩; refine Hid.out ?_)
  refine hid ?_
  have HX1 : Hid (w1.heap[w.heap.size]? = some (.cells #[.int .i64 m, .slice p ws.length c] 26)) := hid ((hb1.block _ (by simp)).trans (heap_alloc_new _ _))
  have HB1 := hid (HW.out.trans (hb1.mono HW.out.size))
  have hz1 := hb1.size
  simp only [World.size_alloc] at hz1
  obtain ⟨k0, k1⟩ := var_cells HX1.out
  clear hb1
  go_wp2_with (go_at_call 28; refine (CS.out _ _ (HA.out.on HB1.out)).mono ?_; rintro e w2 ⟨rfl, hb2⟩; refine Hid.out ?_)
  refine hid ?_
  have HX2 := hid ((hb2.block w.heap.size (by omega)).trans HX1.out)
  have HB2 := hid (HB1.out.trans (hb2.mono HB1.out.size))
  clear hb2 k0 k1
  obtain ⟨k0, k1⟩ := var_cells HX2.out
  go_wp2_with (go_at_call 46; refine (CP.out _ _ (HA.out.on HB2.out)).mono ?_; rintro e w3 ⟨g, o, c5, rfl, hb3, hr3⟩; refine Hid.out ?_)
  refine hid ?_
  have HB3 := hid (HB2.out.trans (hb3.mono HB2.out.size))
  have hM := row_mid hL hr3 h3
  obtain ⟨_, _, e, hc5, hp5⟩ := hr3
  injection e with e1 e2 e3
  subst e1; subst e3
  obtain ⟨_, _, e, hg5, hc5⟩ := hp5 (fun e => by rw [e] at hL; simp at hL; omega)
  injection e with e
  injection e with e1 e2
  subst e1; subst e2
  have q1 := hc5 (h - 1) (by omega)
  have z1 : L[h - 1]'(by omega) = cpC L := by unfold cpC; simp [List.getD, hL, show h - 1 < h by omega]
  rw [z1] at q1
  have r1 : ∀ W : World, Below w3.heap.size w3 W → W.cell? ⟨g, o + (h - 1), none⟩ = some (.int .i64 (cpC L)) := fun W hW => (hW.cell (p := ⟨g, o + (h - 1), none⟩) hg5).trans q1
  have HM := hid (fun W (hW : Below w3.heap.size w3 W) => hM.on hW)
  rw [hml] at HM
  have HML := hid hml
  have bq : (h : Int) - 1 = ((h - 1 : Nat) : Int) := by omega
  have bw : IntKind.i64.wrap ((h : Int) - 1) = ((h - 1 : Nat) : Int) := by rw [IntKind.wrap_i64]; omega
  have bw2 : IntKind.i64.wrap ((h - 1 : Nat) : Int) = ((h - 1 : Nat) : Int) := by rw [IntKind.wrap_i64]; omega
  have b1 : (1 : Int) ≤ ((h - 1 : Nat) : Int) := by omega
  have b2 : ((h - 1 : Nat) : Int) ≤ (c5 : Int) := by omega
  have b3 : (0 : Int) ≤ ((h - 1 : Nat) : Int) := by omega
  have b4 : ((h - 1 : Nat) : Int) < (h : Int) := by omega
  have b5 : ¬ c5 = 1 := by omega
  have b6 : h - 1 - 1 = h - 2 := by omega
  have b7 : 0 < (cpN L).length := by omega
  have b8 : 0 + (cpN L).length ≤ 1000000000 := by omega
  have HLN := hid (show h - 2 = (cpN L).length from hml.symm)
  clear hc5 q1 z1 hM hp5 hb3 k0 k1 e2 hL hml
  go_wp2
  go_region_held3 (fun w' => Below w3.heap.size w3 w') (first | with_reducible assumption | exact Below.drew (Below.refl _ _) | exact Below.alloc (by with_reducible assumption) (by simp) _ | exact Below.alloc (Below.drew (Below.refl _ _)) (by simp) _ | exact Below.grown (by with_reducible assumption) hg6 (by simp) (fun k hk => by cases hk; exact Nat.le_refl _)) ((refine step_append_ints rfl (.tmp 19) (.tmp 24) (by rfl) w3.heap.size _ 0 [] (by rfl) (own_empty w3.drew _ (Nat.le_refl _)) g (o + 1) (c5 - 1) (cpN L) b7 (by rw [← HLN.out]; simp [Act.eval]) (by rw [← HLN.out]; exact HM.out _ (by with_reducible assumption)) b8 (by simp) ?_; intro v6 w6 ho6 hg6))
  rename_i hS
  have HS := hid hS
  rw [Nat.zero_add, List.nil_append] at ho6
  have HO := hid ho6
  clear hS hg6 ho6
  go_wp2
  go_ret3
  exact ⟨v6, rfl, HB3.out.trans (HS.out.mono HB3.out.size), own_raise HO.out HB3.out.size⟩

theorem read_spec (size : Int) (ws : List Int) (hn : ws.length ≤ 1048576) (a : Value) (w : World) (ha : RowIn w a ws) : Calls Try.prog 26 #[.agg #[.int .i64 size, a]] w (ReadPost size ws w) := by
  unfold ReadPost readOut
  by_cases hf : formB size ws = true
  · rw [if_pos hf]
    obtain ⟨h1, h2, h3, h4⟩ := formB_iff.1 hf
    obtain ⟨m, hm⟩ : ∃ m : Nat, size = (m : Int) := ⟨size.toNat, by omega⟩
    subst hm
    have ht : (m : Int).toNat = m := by omega
    rw [ht]
    rcases best_few ws (m + 2) with hb | hb
    · rw [hb, if_pos (by decide)]
      exact (specRead_none m (m + 2) rfl (by omega) (by omega) ws (by omega) h4 (by rw [hb]; decide) a w ha).mono fun e w' h => h
    · have hi : ∃ i : Nat, (i = 0 ∨ i = 1) ∧ (bestOf ws (m + 2) 2).1 = (i : Int) := by
        rcases hb with hb | hb
        · exact ⟨0, Or.inl rfl, hb⟩
        · exact ⟨1, Or.inr rfl, hb⟩
      obtain ⟨i, hi, hb⟩ := hi
      rw [hb, if_neg (by omega), show (i : Int).toNat = i by omega]
      exact specRead_yes m (m + 2) rfl (by omega) (by omega) ws (by omega) h4 i hi hb a w ha
  · rw [if_neg hf]
    exact (specRead_ill size ws hn (by simpa using hf) a w ha).mono fun e w' h => h
end Go.Proofs.Ytknipcnlaaapoaa
