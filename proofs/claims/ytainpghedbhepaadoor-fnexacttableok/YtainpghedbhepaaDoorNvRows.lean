/- Rows of integers in memory; the program's small tests of numbers. -/
import Derived.Test.YtainpghedbhepaaDoorBase
import Derived.Test.YtainpghedbhepaaDoorNvCopy
namespace Go.Proofs.YtainpghedbhepaaDoor
open Go.RowKit
open Go.Lib (hid)

/-- A slice of integers, wherever it begins in its block. -/
def RowIn (w : World) (a : Value) (l : List Int) : Prop :=
  ∃ p c, a = .slice p l.length c ∧ l.length ≤ c ∧ (l ≠ [] → ∃ g o, p = some ⟨g, o, none⟩ ∧ g < w.heap.size ∧ ∀ j (h : j < l.length), w.cell? ⟨g, o + j, none⟩ = some (.int .i64 l[j]))

theorem RowIn.on {w w' : World} {a : Value} {l : List Int} (h : RowIn w a l) (hb : Below w.heap.size w w') : RowIn w' a l := by
  obtain ⟨p, c, rfl, hc, hp⟩ := h
  refine ⟨p, c, rfl, hc, fun hne => ?_⟩
  obtain ⟨g, o, rfl, hg, hcell⟩ := hp hne
  exact ⟨g, o, rfl, Nat.lt_of_lt_of_le hg hb.size, fun j hj => by rw [hb.cell (p := ⟨g, o + j, none⟩) hg]; exact hcell j hj⟩

theorem row_in_own {w : World} {base : Nat} {a : Value} {l : List Int} (h : w.ownsRow base 2 1 a l.length (ints l)) : RowIn w a l := by
  rcases h.2 with ⟨hv, hz⟩ | ⟨g, cap, cur, e1, hbg, hg, hnc, _⟩
  · have hl : l = [] := List.eq_nil_of_length_eq_zero hz
    subst hl
    exact ⟨none, 0, hv, Nat.le_refl _, fun h => absurd rfl h⟩
  · refine ⟨_, cap, e1, hnc, fun _ => ⟨g, 0, rfl, (Array.getElem?_eq_some_iff.1 hg).1, fun j hj => ?_⟩⟩
    have := h.cells (g := g) (by rw [e1]; rfl) j (.int .i64 l[j]) (ints_at l j hj)
    rw [Addr.add_mid] at this
    exact this

theorem areNumbers_calls (l : List Int) (hn : l.length ≤ 1048576) (a : Value) (w : World) (ha : RowIn w a l) :
    Calls Tryd.prog 82 #[a] w fun e w' => e = .returned (.bool (numbB l)) ∧ w' = w := by
  obtain ⟨p, c, rfl, hc, hp⟩ := ha
  have HP := hid hp
  clear hp
  go_enter Tryd.func82, Tryd.ntmps82
  go_wp2
  go_loop [7] (fun iv => ∃ i : Nat, i ≤ l.length ∧ iv = .int .i64 i ∧ Hid (Numb (l.take i))) (fun iv => l.length - (RowKit.intOf iv).toNat)
  case atStart => exact ⟨0, Nat.zero_le _, rfl, hid (fun x hx => by simp at hx)⟩
  case round =>
    obtain ⟨i, hi, rfl, HN⟩ := hrel
    by_cases hlt : i < l.length
    · obtain ⟨g, o, rfl, hg, hcell⟩ := HP.out (fun h => by rw [h] at hlt; cases hlt)
      have hc1 := hcell i hlt
      have HS := hid (numb_succ l i hlt)
      have HI := hid (List.getElem_mem hlt)
      clear hcell
      generalize l[i] = x at *
      by_cases hx0 : x < 0
      · go_wp2
        go_ret
        refine ⟨?_, rfl⟩
        rw [numbB_no (fun h => by have := h x HI.out; omega)]; rfl
      · by_cases hx1 : x > 1000000000
        · go_wp2
          go_ret
          refine ⟨?_, rfl⟩
          rw [numbB_no (fun h => by have := h x HI.out; omega)]; rfl
        · go_wp2
          go_round
          case rel => exact ⟨i + 1, by omega, by go_num, hid (HS.out.2 ⟨HN.out, by omega, by omega⟩)⟩
          case measure => simp [RowKit.intOf]; omega
    · have hie : i = l.length := by omega
      subst hie
      go_wp2
      go_ret
      refine ⟨?_, rfl⟩
      have := HN.out
      rw [List.take_of_length_le (Nat.le_refl _)] at this
      rw [numbB_iff.2 this]
      rfl

/-- Can an Nv of this size keep them? -/
def ValsP (l : List Int) (size : Int) : Prop := 1 ≤ size ∧ size ≤ 20 ∧ (l.length : Int) = size ∧ Numb l

/-- The same as a test. -/
def valsB (l : List Int) (size : Int) : Bool := decide (1 ≤ size ∧ size ≤ 20 ∧ (l.length : Int) = size) && numbB l

theorem valsB_iff {l : List Int} {size : Int} : valsB l size = true ↔ ValsP l size := by simp [valsB, ValsP, numbB_iff, and_assoc]

theorem valsB_no {l : List Int} {size : Int} (h : ¬ ValsP l size) : valsB l size = false := by
  cases hb : valsB l size with
  | false => rfl
  | true => exact absurd (valsB_iff.1 hb) h

/-- Is an Nv formed? -/
def FormP (size : Int) (ws : List Int) : Prop := 1 ≤ size ∧ size ≤ 20 ∧ (ws.length : Int) = 2 * (size + 2) ∧ Numb ws

/-- The same as a test. -/
def formB (size : Int) (ws : List Int) : Bool := decide (1 ≤ size ∧ size ≤ 20 ∧ (ws.length : Int) = 2 * (size + 2)) && numbB ws

theorem formB_iff {size : Int} {ws : List Int} : formB size ws = true ↔ FormP size ws := by simp [formB, FormP, numbB_iff, and_assoc]

theorem formB_no {size : Int} {ws : List Int} (h : ¬ FormP size ws) : formB size ws = false := by
  cases hb : formB size ws with
  | false => rfl
  | true => exact absurd (formB_iff.1 hb) h

end Go.Proofs.YtainpghedbhepaaDoor
