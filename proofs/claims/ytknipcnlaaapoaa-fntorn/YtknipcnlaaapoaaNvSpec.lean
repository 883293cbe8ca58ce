/- The specification's tests of numbers and its NvNew. -/
import Derived.Test.YtknipcnlaaapoaaIntAppend
namespace Go.Proofs.Ytknipcnlaaapoaa
open Go.RowKit
open Go.Lib (hid)

theorem nin_calls (n a b : Int) (w : World) :
    Calls Try.prog 31 #[.int .i64 n, .int .i64 a, .int .i64 b] w fun e w' => e = .returned (.bool (decide (a ≤ n ∧ n ≤ b))) ∧ w' = w := by
  by_cases h1 : a ≤ n
  · have d1 : decide (n ≥ a) = true := decide_eq_true h1
    have e : decide (a ≤ n ∧ n ≤ b) = decide (n ≤ b) := by simp [h1]
    rw [e]
    clear e
    go_enter Try.func31, Try.ntmps31
    go_wp2
    go_ret
    exact ⟨rfl, rfl⟩
  · have d1 : decide (n ≥ a) = false := decide_eq_false h1
    have e : decide (a ≤ n ∧ n ≤ b) = false := by simp [h1]
    rw [e]
    clear e
    go_enter Try.func31, Try.ntmps31
    go_wp2
    go_ret
    exact ⟨rfl, rfl⟩

theorem l3Numbers_calls (l : List Int) (hn : l.length ≤ 1048576) (a : Value) (w : World) (ha : RowIn w a l) :
    Calls Try.prog 27 #[a] w fun e w' => e = .returned (.bool (numbB l)) ∧ w' = w := by
  obtain ⟨p, c, rfl, hc, hp⟩ := ha
  have HP := hid hp
  clear hp
  go_enter Try.func27, Try.ntmps27
  go_wp2
  go_loop [3] (fun iv => ∃ i : Nat, i ≤ l.length ∧ iv = .int .i64 i ∧ Hid (Numb (l.take i))) (fun iv => l.length - (RowKit.intOf iv).toNat)
  case atStart => exact ⟨0, Nat.zero_le _, rfl, hid (fun x hx => by simp at hx)⟩
  case round =>
    obtain ⟨i, hi, rfl, HN⟩ := hrel
    by_cases hlt : i < l.length
    · obtain ⟨g, o, rfl, hg, hcell⟩ := HP.out (fun h => by rw [h] at hlt; cases hlt)
      have hc1 := hcell i hlt
      have HS := hid (numb_succ l i hlt)
      have HI := hid (List.getElem_mem hlt)
      clear hcell
      generalize l[i] = x at *
      by_cases hx : 0 ≤ x ∧ x ≤ 1000000000
      · have hd : decide (0 ≤ x ∧ x ≤ 1000000000) = true := decide_eq_true hx
        have HX := hid hx
        clear hx
        go_wp2_with (go_at_call 31; refine (nin_calls _ _ _ _).mono ?_; rintro e w1 ⟨rfl, rfl⟩; rw [hd])
        go_round
        case rel => exact ⟨i + 1, by omega, by go_num, hid (HS.out.2 ⟨HN.out, HX.out.1, HX.out.2⟩)⟩
        case measure => simp [RowKit.intOf]; omega
      · have hd : decide (0 ≤ x ∧ x ≤ 1000000000) = false := decide_eq_false hx
        have HX := hid hx
        clear hx
        go_wp2_with (go_at_call 31; refine (nin_calls _ _ _ _).mono ?_; rintro e w1 ⟨rfl, rfl⟩; rw [hd])
        go_ret
        refine ⟨?_, rfl⟩
        rw [numbB_no (fun h => HX.out (h x HI.out))]
        rfl
    · have hie : i = l.length := by omega
      subst hie
      go_wp2
      go_ret
      refine ⟨?_, rfl⟩
      have := HN.out
      rw [List.take_of_length_le (Nat.le_refl _)] at this
      rw [numbB_iff.2 this]
      rfl

/-- All numbers lie in 0 .. a thousand million and one. -/
def Numc (l : List Int) : Prop := ∀ x ∈ l, 0 ≤ x ∧ x ≤ 1000000001

theorem numc_sum {l : List Int} (h : Numc l) : 0 ≤ l.sum ∧ l.sum ≤ l.length * 1000000001 := by
  induction l with
  | nil => simp
  | cons a l ih =>
    have h1 := h a (by simp)
    have h2 := ih (fun x hx => h x (by simp [hx]))
    simp only [List.sum_cons, List.length_cons]
    omega

set_option maxRecDepth 20000 in
theorem l3Check_calls (l : List Int) (S : Int) (hS : (l.drop 1).sum = S) (h1 : 1 ≤ l.length) (hn : l.length ≤ 1000) (hb : Numc (l.drop 1)) (a : Value) (w : World) (ha : RowIn w a l) :
    Calls Try.prog 29 #[a] w fun e w' => e = .returned (.int .i64 (1 + S % 999983)) ∧ w' = w := by
  obtain ⟨p, c, rfl, hc, hp⟩ := ha
  obtain ⟨g, o, rfl, hg, hcell⟩ := hp (fun h => by rw [h] at h1; cases h1)
  have HC := hid hcell
  have HB := hid hb
  have HSS := hid hS
  clear hp hcell hb hS
  go_enter Try.func29, Try.ntmps29
  go_wp2
  go_loop [3, 4] (fun sv iv => ∃ i : Nat, ∃ t : Int, 1 ≤ i ∧ i ≤ l.length ∧ iv = .int .i64 i ∧ sv = .int .i64 t ∧ 0 ≤ t ∧ t ≤ 2000000000000 ∧ Hid (t = ((l.drop 1).take (i - 1)).sum)) (fun _ iv => l.length - (RowKit.intOf iv).toNat)
  case atStart => exact ⟨1, 0, Nat.le_refl _, h1, rfl, rfl, by omega, by omega, hid (by simp)⟩
  case round =>
    obtain ⟨i, t, hi1, hi, rfl, rfl, ht0, ht1, HT⟩ := hrel
    by_cases hlt : i < l.length
    · have hc1 := HC.out i hlt
      have hd : i - 1 < (l.drop 1).length := by rw [List.length_drop]; omega
      have he : (l.drop 1)[i - 1] = l[i] := by rw [List.getElem_drop]; congr 1; omega
      have HS := hid (sum_take (l.drop 1) (i - 1) hd)
      rw [he, show i - 1 + 1 = i by omega] at HS
      have hs := numc_sum (l := (l.drop 1).take i) (fun x hx => HB.out x (List.mem_of_mem_take hx))
      rw [HS.out, List.length_take, List.length_drop] at hs
      have hbd : 0 ≤ t + l[i] ∧ t + l[i] ≤ 2000000000000 := by rw [HT.out]; omega
      clear hs hd he
      generalize l[i] = x at *
      go_wp2
      go_round
      case rel => exact ⟨i + 1, t + x, by omega, by omega, by go_num, rfl, by omega, by omega, hid (by rw [show i + 1 - 1 = i by omega, HS.out, HT.out])⟩
      case measure => simp [RowKit.intOf]; omega
    · have hie : i = l.length := by omega
      subst hie
      go_wp2
      go_ret
      refine ⟨?_, rfl⟩
      have := HT.out
      rw [List.take_of_length_le (by rw [List.length_drop]; omega)] at this
      rw [← HSS.out, ← this]
      rfl
end Go.Proofs.Ytknipcnlaaapoaa
