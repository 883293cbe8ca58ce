/- Rows of integers in memory; the program's small tests of numbers. -/
import Derived.Test.YtknipcnlaaapoaaBase
import Derived.Test.YtknipcnlaaapoaaNvCopy
namespace Go.Proofs.Ytknipcnlaaapoaa
open Go.RowKit
open Go.Lib (hid)

/-- A slice of integers, wherever it begins in its block. -/
def RowIn (w : World) (a : Value) (l : List Int) : Prop :=
  ∃ p c, a = .slice p l.length c ∧ l.length ≤ c ∧ (l ≠ [] → ∃ g o, p = some ⟨g, o, none⟩ ∧ g < w.heap.size ∧ ∀ j (h : j < l.length), w.cell? ⟨g, o + j, none⟩ = some (.int .i64 l[j]))

theorem RowIn.on {w w' : World} {a : Value} {l : List Int} (h : RowIn w a l) (hb : Below w.heap.size w w') : RowIn w' a l := by
  obtain ⟨p, c, rfl, hc, hp⟩ := h
  refine ⟨p, c, rfl, hc, fun hne => ?_⟩
  obtain ⟨g, o, rfl, hg, hcell⟩ := hp hne
  exact ⟨g, o, rfl, Nat.lt_of_lt_of_le hg hb.size, fun j hj => by rw [hb.cell (p := ⟨g, o + j, none⟩) hg]; exact hcell j hj⟩

theorem row_in_own {w : World} {base : Nat} {a : Value} {l : List Int} (h : w.ownsRow base 2 1 a l.length (ints l)) : RowIn w a l := by
  rcases h.2 with ⟨hv, hz⟩ | ⟨g, cap, cur, e1, hbg, hg, hnc, _⟩
  · have hl : l = [] := List.eq_nil_of_length_eq_zero hz
    subst hl
    exact ⟨none, 0, hv, Nat.le_refl _, fun h => absurd rfl h⟩
  · refine ⟨_, cap, e1, hnc, fun _ => ⟨g, 0, rfl, (Array.getElem?_eq_some_iff.1 hg).1, fun j hj => ?_⟩⟩
    have := h.cells (g := g) (by rw [e1]; rfl) j (.int .i64 l[j]) (ints_at l j hj)
    rw [Addr.add_mid] at this
    exact this

theorem areNumbers_calls (l : List Int) (hn : l.length ≤ 1048576) (a : Value) (w : World) (ha : RowIn w a l) :
    Calls Try.prog 40 #[a] w fun e w' => e = .returned (.bool (numbB l)) ∧ w' = w := by
  obtain ⟨p, c, rfl, hc, hp⟩ := ha
  have HP := hid hp
  clear hp
  go_enter Try.func40, Try.ntmps40
  go_wp2
  go_loop [7] (fun iv => ∃ i : Nat, i ≤ l.length ∧ iv = .int .i64 i ∧ Hid (Numb (l.take i))) (fun iv => l.length - (RowKit.intOf iv).toNat)
  case atStart => exact ⟨0, Nat.zero_le _, rfl, hid (fun x hx => by simp at hx)⟩
  case round =>
    obtain ⟨i, hi, rfl, HN⟩ := hrel
    by_cases hlt : i < l.length
    · obtain ⟨g, o, rfl, hg, hcell⟩ := HP.out (fun h => by rw [h] at hlt; cases hlt)
      have hc1 := hcell i hlt
      have HS := hid (numb_succ l i hlt)
      have HI := hid (List.getElem_mem hlt)
      clear hcell
      generalize l[i] = x at *
      by_cases hx0 : x < 0
      · go_wp2
        go_ret
        refine ⟨?_, rfl⟩
        rw [numbB_no (fun h => by have := h x HI.out; omega)]; rfl
      · by_cases hx1 : x > 1000000000
        · go_wp2
          go_ret
          refine ⟨?_, rfl⟩
          rw [numbB_no (fun h => by have := h x HI.out; omega)]; rfl
        · go_wp2
          go_round
          case rel => exact ⟨i + 1, by omega, by go_num, hid (HS.out.2 ⟨HN.out, by omega, by omega⟩)⟩
          case measure => simp [RowKit.intOf]; omega
    · have hie : i = l.length := by omega
      subst hie
      go_wp2
      go_ret
      refine ⟨?_, rfl⟩
      have := HN.out
      rw [List.take_of_length_le (Nat.le_refl _)] at this
      rw [numbB_iff.2 this]
      rfl

/-- Can an Nv of this size keep them? -/
def ValsP (l : List Int) (size : Int) : Prop := 1 ≤ size ∧ size ≤ 20 ∧ (l.length : Int) = size ∧ Numb l

/-- The same as a test. -/
def valsB (l : List Int) (size : Int) : Bool := decide (1 ≤ size ∧ size ≤ 20 ∧ (l.length : Int) = size) && numbB l

theorem valsB_iff {l : List Int} {size : Int} : valsB l size = true ↔ ValsP l size := by simp [valsB, ValsP, numbB_iff, and_assoc]

theorem valsB_no {l : List Int} {size : Int} (h : ¬ ValsP l size) : valsB l size = false := by
  cases hb : valsB l size with
  | false => rfl
  | true => exact absurd (valsB_iff.1 hb) h

theorem areValues_calls (l : List Int) (hn : l.length ≤ 1048576) (size : Int) (a : Value) (w : World) (ha : RowIn w a l) :
    Calls Try.prog 32 #[a, .int .i64 size] w fun e w' => e = .returned (.bool (valsB l size)) ∧ w' = w := by
  have HA := hid ha
  obtain ⟨p, c, rfl, hc, _⟩ := ha
  by_cases h1 : 1 ≤ size
  · by_cases h2 : size ≤ 20
    · by_cases h3 : (l.length : Int) = size
      · have h3b : ((l.length : Int) == size) = true := by rw [beq_iff_eq]; exact h3
        have e : valsB l size = numbB l := by simp [valsB, h1, h2, h3]
        rw [e]
        clear e
        go_enter Try.func32, Try.ntmps32
        go_wp2_with (go_at_call 40; refine (areNumbers_calls l hn _ _ HA.out).mono ?_; rintro e w1 ⟨rfl, rfl⟩)
        go_ret
        exact ⟨rfl, rfl⟩
      · have h3b : ((l.length : Int) == size) = false := by rw [beq_eq_false_iff_ne]; exact h3
        rw [valsB_no (fun h => h3 h.2.2.1)]
        go_enter Try.func32, Try.ntmps32
        go_wp2
        go_ret
        exact ⟨rfl, rfl⟩
    · rw [valsB_no (fun h => h2 h.2.1)]
      go_enter Try.func32, Try.ntmps32
      go_wp2
      go_ret
      exact ⟨rfl, rfl⟩
  · rw [valsB_no (fun h => h1 h.1)]
    go_enter Try.func32, Try.ntmps32
    go_wp2
    go_ret
    exact ⟨rfl, rfl⟩

theorem words_calls (size : Int) (h1 : 1 ≤ size) (h2 : size ≤ 20) (w : World) :
    Calls Try.prog 33 #[.int .i64 size] w fun e w' => e = .returned (.int .i64 (size + 2)) ∧ w' = w := by
  go_enter Try.func33, Try.ntmps33
  go_wp2
  go_ret
  exact ⟨rfl, rfl⟩

/-- Is an Nv formed? -/
def FormP (size : Int) (ws : List Int) : Prop := 1 ≤ size ∧ size ≤ 20 ∧ (ws.length : Int) = 2 * (size + 2) ∧ Numb ws

/-- The same as a test. -/
def formB (size : Int) (ws : List Int) : Bool := decide (1 ≤ size ∧ size ≤ 20 ∧ (ws.length : Int) = 2 * (size + 2)) && numbB ws

theorem formB_iff {size : Int} {ws : List Int} : formB size ws = true ↔ FormP size ws := by simp [formB, FormP, numbB_iff, and_assoc]

theorem formB_no {size : Int} {ws : List Int} (h : ¬ FormP size ws) : formB size ws = false := by
  cases hb : formB size ws with
  | false => rfl
  | true => exact absurd (formB_iff.1 hb) h

theorem formed_calls (size : Int) (ws : List Int) (hn : ws.length ≤ 1048576) (a : Value) (w : World) (ha : RowIn w a ws) :
    Calls Try.prog 17 #[.agg #[.int .i64 size, a]] w fun e w' => e = .returned (.bool (formB size ws)) ∧ Below w.heap.size w w' := by
  have HA := hid ha
  obtain ⟨p, c, rfl, hc, _⟩ := ha
  by_cases h1 : 1 ≤ size
  · have d1 : decide (size ≥ 1) = true := decide_eq_true h1
    by_cases h2 : size ≤ 20
    · have d2 : decide (size ≤ 20) = true := decide_eq_true h2
      by_cases h3 : (ws.length : Int) = 2 * (size + 2)
      · have h3b : ((ws.length : Int) == 2 * (size + 2)) = true := by rw [beq_iff_eq]; exact h3
        have e : formB size ws = numbB ws := by simp [formB, h1, h2, h3]
        rw [e]
        clear e
        have HAN := hid (fun W hW => areNumbers_calls ws hn _ W (HA.out.on hW))
        go_enter Try.func17, Try.ntmps17
        go_wp2
        go_quiet ((first | (go_at_call 33; exact Calls.quiet_of_same (words_calls size h1 h2 _)) | (go_at_call 40; exact Calls.quiet_of_same (HAN.out _ (by exact drewN_below ((Below.refl _ _).alloc (Nat.le_refl _) _) _)))))
        go_wp2
        go_ret
        exact ⟨rfl, drewN_below ((Below.refl _ _).alloc (Nat.le_refl _) _) _⟩
      · have h3b : ((ws.length : Int) == 2 * (size + 2)) = false := by rw [beq_eq_false_iff_ne]; exact h3
        rw [formB_no (fun h => h3 h.2.2.1)]
        go_enter Try.func17, Try.ntmps17
        go_wp2
        go_quiet ((go_at_call 33; exact Calls.quiet_of_same (words_calls size h1 h2 _)))
        go_wp2
        go_ret
        exact ⟨rfl, drewN_below ((Below.refl _ _).alloc (Nat.le_refl _) _) _⟩
    · have d2 : decide (size ≤ 20) = false := decide_eq_false h2
      rw [formB_no (fun h => h2 h.2.1)]
      go_enter Try.func17, Try.ntmps17
      go_wp2
      go_quiet (fail)
      go_wp2
      go_ret
      exact ⟨rfl, drewN_below ((Below.refl _ _).alloc (Nat.le_refl _) _) _⟩
  · have d1 : decide (size ≥ 1) = false := decide_eq_false h1
    rw [formB_no (fun h => h1 h.1)]
    go_enter Try.func17, Try.ntmps17
    go_wp2
    go_quiet (fail)
    go_wp2
    go_ret
    exact ⟨rfl, drewN_below ((Below.refl _ _).alloc (Nat.le_refl _) _) _⟩
end Go.Proofs.Ytknipcnlaaapoaa
