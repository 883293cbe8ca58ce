/- What is fresh is not in the future; plain. -/
import Derived.Test.YthpnlhbfginkjaaTickPlain
import Derived.Test.YthpnlhbfginkjaaDecPlain
import Derived.Test.YthpnlhbfginkjaaMarkBoth
namespace Go.Proofs.Ythpnlhbfginkjaa
open Ieee
open Go.RowKit

theorem read_neg (p : Nat) : Ieee.double.read (Op.negFloat .f64 p) = (Ieee.double.read p).opposite := by
  obtain ⟨h1, h2⟩ := neg_parts p
  unfold Format.read
  rw [binade64, sign64, inf64]
  have e1 : Op.negFloat .f64 p % 9223372036854775808 = p % 9223372036854775808 := h1
  have e2 : (Op.negFloat .f64 p / 9223372036854775808 % 2 == 1) = !(p / 9223372036854775808 % 2 == 1) := h2
  simp only [e1, e2]
  split
  · rfl
  · split
    · rfl
    · split <;> rfl

theorem sub_add (y p : Nat) : floatBits .sub .f64 y p = floatBits .add .f64 y (Op.negFloat .f64 p) := by
  unfold floatBits
  rw [f64_format]
  show ((Ieee.double.read y).sum (Ieee.double.read p).opposite).map _ = ((Ieee.double.read y).sum (Ieee.double.read (Op.negFloat .f64 p))).map _
  rw [read_neg]

theorem neg_fin {p : Nat} (h : finB p = true) : finB (Op.negFloat .f64 p) = true := by
  unfold finB at *
  rw [(neg_parts p).1]
  exact h

theorem neg_ival (p : Nat) : ival (Op.negFloat .f64 p) = -ival p := by
  obtain ⟨h1, h2⟩ := neg_parts p
  unfold ival
  rw [h1, h2]
  cases sgn p <;> simp

theorem srung_neg {t : Int} (h : t < 0) : srung t < 0 := by
  unfold srung
  rw [if_pos h]
  have h1 := rung_mono (m := 1) (n := t.natAbs) (by omega) (-1074)
  have h2 : rung 1 (-1074) = 1 := by decide
  omega

theorem ival_lt {a b : Nat} (h : fkey a < fkey b) : ival a < ival b := by
  unfold fkey at h
  unfold ival
  revert h
  cases sgn a <;> cases sgn b <;> simp only [if_true, if_false, Bool.false_eq_true] <;> intro h
  · have := vr_lt (show rg a < rg b by omega)
    omega
  · omega
  · rcases Nat.eq_zero_or_pos (rg a) with h1 | h1
    · have := vr_lt (show 0 < rg b by omega)
      rw [vr_zero] at this
      rw [h1, vr_zero]
      omega
    · have := vr_lt h1
      rw [vr_zero] at this
      omega
  · have := vr_lt (show rg b < rg a by omega)
    omega

/-- What is later less what is earlier. -/
theorem sub_below {now born : Nat} (hn : nanB now = false) (hb : nanB born = false) (h : fkey now < fkey born) : ∃ d, floatBits .sub .f64 now born = some d ∧ nanB d = false ∧ fkey d < 0 := by
  cases fb' : finB born with
  | true =>
    cases fn : finB now with
    | true =>
      obtain ⟨d, h1, h2, h3⟩ := add_key fn (neg_fin fb')
      rw [sub_add]
      refine ⟨d, h1, h2, ?_⟩
      rw [h3, neg_ival]
      have := ival_lt h
      exact srung_neg (by omega)
    | false =>
      have hi : rg now = 9218868437227405312 := by
        rcases fin_of hn with k | k
        · rw [k] at fn; cases fn
        · exact k
      have hs : sgn now = true := by
        cases hs : sgn now with
        | true => rfl
        | false =>
          have := key_max hb
          unfold fkey at h
          rw [hs, hi] at h
          unfold fkey at this
          simp only [Bool.false_eq_true, if_false] at h
          omega
      obtain ⟨m, e, h1, _⟩ := read_fin fb'
      unfold floatBits
      rw [f64_format]
      show ∃ d, ((Ieee.double.read now).sum (Ieee.double.read born).opposite).map Ieee.double.write = some d ∧ _
      rw [read_inf hi, h1, hs]
      exact ⟨_, rfl, by decide, by decide⟩
  | false =>
    have hi : rg born = 9218868437227405312 := by
      rcases fin_of hb with k | k
      · rw [k] at fb'; cases fb'
      · exact k
    have hs : sgn born = false := by
      cases hs : sgn born with
      | false => rfl
      | true =>
        exfalso
        have hm : -9218868437227405312 ≤ fkey now := by
          unfold nanB at hn
          have hn := of_decide_eq_false hn
          unfold fkey
          split <;> omega
        have hk : fkey born = -9218868437227405312 := by unfold fkey; rw [hs, hi]; rfl
        omega
    have hk : fkey born = 9218868437227405312 := by unfold fkey; rw [hs, hi]; rfl
    unfold floatBits
    rw [f64_format]
    show ∃ d, ((Ieee.double.read now).sum (Ieee.double.read born).opposite).map Ieee.double.write = some d ∧ _
    rw [read_inf hi, hs]
    rcases read_some hn with ⟨m, e, h1, _, _⟩ | h1
    · rw [h1]
      exact ⟨_, rfl, by decide, by decide⟩
    · have hin : rg now = 9218868437227405312 := by
        rcases fin_of hn with k | k
        · obtain ⟨m, e, h5, _⟩ := read_fin k
          rw [h5] at h1
          cases h1
        · exact k
      have hsn : sgn now = true := by
        cases hsn : sgn now with
        | true => rfl
        | false =>
          have : fkey now = 9218868437227405312 := by unfold fkey; rw [hsn, hin]; rfl
          omega
      rw [h1, hsn]
      exact ⟨_, rfl, by decide, by decide⟩

theorem fresh_past {born now most : Nat} (h : freshB born now most = true) : (FloatKind.f64.format.order born now == some .gt) = false := by
  cases hb : nanB born with
  | true => rw [ord_nan hb]; rfl
  | false =>
    cases hn : nanB now with
    | true => rw [ord_nan' hn]; rfl
    | false =>
      rw [f64_format, order_key hb hn]
      rcases Int.lt_trichotomy (fkey born) (fkey now) with k | k | k
      · rw [cmp_lt k]; rfl
      · rw [cmp_eq k]; rfl
      · obtain ⟨d, h1, h2, h3⟩ := sub_below hn hb k
        exfalso
        unfold freshB at h
        have e : fop .sub (some now) (some born) = some d := h1
        have e2 : ford (some d) (some 0) = some .lt := by
          show FloatKind.f64.format.order d 0 = _
          rw [f64_format, order_key h2 (by decide)]
          have h0 : fkey 0 = 0 := by decide
          rw [h0, cmp_lt h3]
        simp only [e, e2] at h
        simp at h

/-- Where a place that is not fresh stands. -/
theorem mrk_at (l : List Nat) (now most : Nat) {i j : Nat} (hij : i < j) (h : freshB (l.getD i 0) now most = false) : (mrkTo l now most j)[(mrkTo l now most i).length]? = some (i : Int) := by
  induction j with
  | zero => omega
  | succ j ih =>
    rcases Nat.lt_or_ge i j with hlt | hge
    · have hh := ih hlt
      show (mrkTo l now most j ++ _)[_]? = _
      rw [List.getElem?_append_left]
      · exact hh
      · exact (List.getElem?_eq_some_iff.1 hh).1
    · obtain rfl : i = j := by omega
      rw [mrkTo_yes h]
      simp
end Go.Proofs.Ythpnlhbfginkjaa
