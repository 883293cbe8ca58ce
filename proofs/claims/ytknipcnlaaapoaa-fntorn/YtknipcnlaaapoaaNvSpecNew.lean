/- The specification's NvNew. -/
import Derived.Test.YtknipcnlaaapoaaNvSpec
namespace Go.Proofs.Ytknipcnlaaapoaa
open Go.RowKit
open Go.Lib (hid)

theorem specNew_no (l : List Int) (hl : l.length ≤ 1048576) (h : valsB l l.length = false) (a : Value) (w : World) (ha : RowIn w a l) :
    Calls Try.prog 43 #[a] w fun e w' => e = .returned (.tuple #[.agg #[.int .i64 0, .slice none 0 0], .bool false]) ∧ Below w.heap.size w w' := by
  have HA := hid ha
  obtain ⟨p, c, rfl, hc, _⟩ := ha
  have hw0 : Below w.heap.size w (w.alloc (.cells #[.int .i64 0, .slice none 0 0] 26)) := (Below.refl _ _).alloc (Nat.le_refl _) _
  have HW := hid hw0
  by_cases h1 : (l.length : Int) < 1
  · have d1 : decide ((l.length : Int) < 1) = true := decide_eq_true h1
    go_enter Try.func43, Try.ntmps43
    go_wp2
    exact bodyPost_ret (v := .tuple #[.agg #[.int .i64 0, .slice none 0 0], .bool false]) (by simp [results, Try.results43, go_sem]) rfl ⟨rfl, HW.out⟩
  · by_cases h2 : (l.length : Int) > 20
    · go_enter Try.func43, Try.ntmps43
      go_wp2
      exact bodyPost_ret (v := .tuple #[.agg #[.int .i64 0, .slice none 0 0], .bool false]) (by simp [results, Try.results43, go_sem]) rfl ⟨rfl, HW.out⟩
    · have hnb : numbB l = false := by
        cases hb : numbB l with
        | false => rfl
        | true => rw [valsB_iff.2 ⟨by omega, by omega, rfl, numbB_iff.1 hb⟩] at h; cases h
      have CN := hid (fun W (hW : RowIn W (.slice p l.length c) l) => l3Numbers_calls l hl _ W hW)
      rw [hnb] at CN
      go_enter Try.func43, Try.ntmps43
      go_wp2_with (go_at_call 27; refine (CN.out _ (HA.out.on HW.out)).mono ?_; rintro e w1 ⟨rfl, rfl⟩)
      exact bodyPost_ret (v := .tuple #[.agg #[.int .i64 0, .slice none 0 0], .bool false]) (by simp [results, Try.results43, go_sem]) rfl ⟨rfl, HW.out⟩

theorem row_in_own2 {w : World} {base n : Nat} {a : Value} {l : List Int} (hn : n = l.length) (h : w.ownsRow base 2 1 a n (ints l)) : RowIn w a l := by
  subst hn
  exact row_in_own h

theorem own_raise {w : World} {base base' n : Nat} {e : TypeId} {v : Value} {xs : List Value} (h : w.ownsRow base e 1 v n xs) (hb : base' ≤ base) : w.ownsRow base' e 1 v n xs :=
  ⟨h.1, h.2.imp id fun ⟨g, cap, cur, a1, a2, a3⟩ => ⟨g, cap, cur, a1, Nat.le_trans hb a2, a3⟩⟩

set_option maxRecDepth 20000 in
set_option maxHeartbeats 1000000 in
theorem specNew_yes (l : List Int) (h : ValsP l l.length) (a : Value) (w : World) (ha : RowIn w a l) (hnil : ∀ c, a = .slice none l.length c → c = 0) :
    Calls Try.prog 43 #[a] w fun e w' => ∃ sv, e = .returned (.tuple #[.agg #[.int .i64 l.length, sv], .bool true]) ∧ Below w.heap.size w w' ∧ w'.ownsRow w.heap.size 2 1 sv (newWords l).length (ints (newWords l)) := by
  obtain ⟨h1, h2, _, h4⟩ := h
  have hl1 : 1 ≤ l.length := by omega
  have hl2 : l.length ≤ 20 := by omega
  have HA := hid ha
  have HNIL := hid hnil
  obtain ⟨p, c, rfl, hc, _⟩ := ha
  have hw0 : Below w.heap.size w (w.alloc (.cells #[.int .i64 0, .slice none 0 0] 26)) := (Below.refl _ _).alloc (Nat.le_refl _) _
  have HW := hid hw0
  have CN := hid (fun W (hW : RowIn W (.slice p l.length c) l) => l3Numbers_calls l (by omega) _ W hW)
  rw [numbB_iff.2 h4] at CN
  have HL1 : Hid (((w.alloc (.cells #[.int .i64 0, .slice none 0 0] 26)).alloc (.cells #[.int .i64 0] 2)).ownsRow (w.heap.size + 1) 2 1 (.slice (some ⟨w.heap.size + 1, 0, none⟩) 1 1) 1 (ints [0])) := by
    have h := World.ownsRow_lit (base := w.heap.size + 1) (e := 2) (size := 1) (w.alloc (.cells #[.int .i64 0, .slice none 0 0] 26)) #[.int .i64 0] 1 (by simp) (by decide) rfl
    have hz : (w.alloc (.cells #[.int .i64 0, .slice none 0 0] 26)).heap.size = w.heap.size + 1 := by simp
    rw [hz] at h
    exact hid h
  have CK := hid (fun a W (hW : RowIn W a (0 :: (l ++ [1]))) => l3Check_calls (0 :: (l ++ [1])) (1 + l.sum) (by simp; omega) (by simp) (by simp; omega) (fun x hx => by
    have hx : x ∈ l ++ [1] := hx
    rcases List.mem_append.1 hx with hx | hx
    · have := h4 x hx; omega
    · obtain rfl := List.mem_singleton.1 hx; omega) a W hW)
  clear hw0 hnil h4
  go_enter Try.func43, Try.ntmps43
  go_wp2_with (first | (go_at_call 27; refine (CN.out _ (HA.out.on HW.out)).mono ?_; rintro e w1 ⟨rfl, rfl⟩) | (at_builtin; refine wp_append_ints rfl (.tmp 19) (.tmp 20) rfl (w.heap.size + 1) _ 1 _ (by rfl) HL1.out _ l (by rfl) (HA.out.on (HW.out.trans ((Below.refl _ _).alloc (by simp) _))) (by omega) (by simp) HNIL.out ?_; intro v1 w2 ho2 hg2 _; have hz2 := hg2.size; simp only [World.size_alloc] at hz2; have HB2 : Hid (Below (w.heap.size + 1) (w.alloc (.cells #[.int .i64 0, .slice none 0 0] 26)) w2) := (hid (((Below.refl _ _).alloc (by simp) _).grown hg2 (by simp) (fun k hk => by cases hk; exact Nat.le_refl _))); have HO2 := hid ho2; clear hg2 ho2) | (at_builtin; refine wp_append_ints rfl (.tmp 21) (.tmp 22) rfl (w.heap.size + 1) _ (1 + l.length) _ (by rfl) (own_below HO2.out ((Below.refl _ _).alloc (Nat.le_refl _) _)) _ [1] (by rfl) (row_lit _ _ _) (by simp; omega) (by simp; omega) (fun c h => by cases h) ?_; intro v2 w3 ho3 hg3 _; obtain ⟨g3, c3, rfl, hb3, hl3⟩ := own_form ho3 (by omega); have hz3 := hg3.size; simp only [World.size_alloc] at hz3; have HB3 : Hid (Below (w.heap.size + 1) (w.alloc (.cells #[.int .i64 0, .slice none 0 0] 26)) w3) := (hid ((HB2.out.alloc (by omega) _).grown hg3 (by simp; omega) (fun k hk => (HO2.out.lt k hk).1))); have HO3 : Hid (w3.ownsRow (w.heap.size + 1) 2 1 (.slice (some ⟨g3, 0, none⟩) (1 + l.length + 1) c3) (1 + l.length + 1) (ints (0 :: (l ++ [1])))) := (hid (by have h := ho3; rw [← ints_append, ← ints_append] at h; exact h)); have hc3 : w3.cell? ⟨g3, 0, none⟩ = some (.int .i64 0) := (HO3.out.cellAt 0 (by omega)).trans rfl; have hf3 := HO3.out.frozenAt 0; have HS3 := hid (HO3.out.stored 0 (.int .i64 (1 + (1 + l.sum) % 999983))).1; rw [ints_set] at HS3; clear hg3 ho3) | (go_at_call 29; refine (CK.out _ _ (row_in_own2 (by simp; omega) HO3.out)).mono ?_; rintro e w4 ⟨rfl, rfl⟩) | (at_builtin; refine wp_append_zeros rfl (.tmp 30) (.tmp 32) rfl (w.heap.size + 1) _ (1 + l.length + 1) _ (by rfl) HS3.out (by omega) (1 + l.length + 1) (by rfl) (by omega) (by omega) (by simp; omega) ?_; intro v5 w5 ho5 hg5; obtain ⟨g5, c5, rfl, hb5, hl5⟩ := own_form ho5 (by omega); have hB5 := (HB3.out.setCell (p := ⟨g3, 0, none⟩) hb3 (.int .i64 (1 + (1 + l.sum) % 999983))).grown hg5 (by simp; omega) (fun k hk => by cases hk; exact hb3); have k0 := hB5.cell (p := ⟨w.heap.size, 0, none⟩) (Nat.lt_succ_self _); have k1 := hB5.cell (p := ⟨w.heap.size, 1, none⟩) (Nat.lt_succ_self _); have kf := fun o => hB5.frozen (p := ⟨w.heap.size, o, none⟩) (Nat.lt_succ_self _); have HB5 := hid hB5; have HO5 := hid ho5; clear hg5 ho5 hB5))
  have hsv : ints ((0 :: (l ++ [1])).set 0 (1 + (1 + l.sum) % 999983)) ++ ints (noughts (1 + l.length + 1)) = ints (newWords l) := by
    rw [← ints_append]
    congr 1
    simp [newWords, show 1 + l.length + 1 = l.length + 2 by omega]
  rw [hsv, show 1 + l.length + 1 + (1 + l.length + 1) = (newWords l).length by rw [newWords_len]; omega] at HO5
  rw [show 1 + l.length + 1 + (1 + l.length + 1) = (newWords l).length by rw [newWords_len]; omega]
  refine bodyPost_ret (v := .tuple #[.agg #[.int .i64 l.length, .slice (some ⟨g5, 0, none⟩) (newWords l).length c5], .bool true]) (by simp [results, Try.results43, go_sem, k0, k1]) rfl ⟨_, rfl, ?_, ?_⟩
  · exact ((HW.out.trans (HB5.out.mono (Nat.le_succ _))).setCell (p := ⟨w.heap.size, 0, none⟩) (Nat.le_refl _) _).setCell (p := ⟨w.heap.size, 1, none⟩) (Nat.le_refl _) _
  · exact own_raise (ownsRow_setCell_below (ownsRow_setCell_below HO5.out (a := ⟨w.heap.size, 0, none⟩) (Nat.lt_succ_self _) (.int .i64 l.length)) (a := ⟨w.heap.size, 1, none⟩) (Nat.lt_succ_self _) (.slice (some ⟨g5, 0, none⟩) (newWords l).length c5)) (Nat.le_succ _)
end Go.Proofs.Ytknipcnlaaapoaa
