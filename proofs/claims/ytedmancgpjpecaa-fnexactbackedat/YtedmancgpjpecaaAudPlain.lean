/- What the audits of chapter 19 ask, in plain words: one fact held against those ahead of it; the first place that is wrong. Plain; no condition but what each names. -/
import Derived.Test.YtedmancgpjpecaaRowFact
namespace Go.Proofs.Ytedmancgpjpecaa
open Go.RowKit
open Go.Lib (hid)

/-- A claim: of which facts it is, what answers it, and whether an answer is wanted. -/
structure Claim where
  asks : FactV → Bool
  answers : FactV → FactV → List FactV → Bool
  wanted : Bool

/-- Is there an answer among those ahead, from a place on? -/
def ansFrom (c : Claim) (f : FactV) (ahead : List FactV) (i : Nat) : Bool := (List.range (ahead.length - i)).any fun k => match ahead[i + k]? with
  | some o => c.answers f o (ahead.drop (i + k + 1))
  | none => false

def badC (c : Claim) (f : FactV) (ahead : List FactV) : Bool := c.asks f && (ansFrom c f ahead 0 != c.wanted)

def wrongB (cs : List Claim) (f : FactV) (ahead : List FactV) : Bool := cs.any fun c => badC c f ahead

theorem ansFrom_end (c : Claim) (f : FactV) (ahead : List FactV) : ansFrom c f ahead ahead.length = false := by simp [ansFrom]

theorem ansFrom_step (c : Claim) (f : FactV) (ahead : List FactV) (i : Nat) (h : i < ahead.length) : ansFrom c f ahead i = (c.answers f ahead[i] (ahead.drop (i + 1)) || ansFrom c f ahead (i + 1)) := by
  unfold ansFrom
  rw [show ahead.length - i = (ahead.length - (i + 1)) + 1 by omega, List.range_succ_eq_map, List.any_cons, List.any_map]
  simp only [Nat.add_zero, List.getElem?_eq_getElem h]
  congr 1
  apply congrArg (fun g => List.any (List.range (ahead.length - (i + 1))) g)
  funext k
  simp only [Function.comp, Nat.succ_eq_add_one]
  rw [show i + (k + 1) = i + 1 + k by omega]

/-- The first place that is wrong; -1 where there is none, or there are too many. -/
def IsFirst (W : FactV → List FactV → Bool) (fs : List FactV) (r : Int) : Prop :=
  (r = -1 ∧ (300 < fs.length ∨ ∀ i (h : i < fs.length), W fs[i] (fs.take i) = false)) ∨
  (fs.length ≤ 300 ∧ ∃ i, ∃ h : i < fs.length, r = (i : Int) ∧ W fs[i] (fs.take i) = true ∧ ∀ j (hj : j < i), W (fs[j]'(by omega)) (fs.take j) = false)

theorem IsFirst.one {W : FactV → List FactV → Bool} {fs : List FactV} {r s : Int} (h : IsFirst W fs r) (k : IsFirst W fs s) : r = s := by
  rcases h with ⟨h1, h2⟩ | ⟨h1, i, hi, h2, h3, h4⟩ <;> rcases k with ⟨k1, k2⟩ | ⟨k1, j, hj, k2, k3, k4⟩
  · rw [h1, k1]
  · rcases h2 with h2 | h2
    · omega
    · have := h2 j hj; rw [k3] at this; cases this
  · rcases k2 with k2 | k2
    · omega
    · have := k2 i hi; rw [h3] at this; cases this
  · rcases Nat.lt_trichotomy i j with h | h | h
    · have := k4 i h; rw [h3] at this; cases this
    · subst h; rw [h2, k2]
    · have := h4 j h; rw [k3] at this; cases this

theorem IsFirst.congr {W V : FactV → List FactV → Bool} {fs : List FactV} {r : Int} (e : ∀ f l, W f l = V f l) (h : IsFirst W fs r) : IsFirst V fs r := by
  have : W = V := by funext f l; exact e f l
  rw [← this]; exact h

/-- Is there one ahead of this kind with this text? -/
def aheadB (ahead : List FactV) (f : FactV) (kind : Int) : Bool := ahead.any fun o => (o.kind == kind) && (o.text.toList == f.text.toList)

theorem ans_plain (c : Claim) (g : FactV → FactV → Bool) (hg : ∀ f o l, c.answers f o l = g f o) (f : FactV) (ahead : List FactV) (i : Nat) : ansFrom c f ahead i = (ahead.drop i).any (g f) := by
  by_cases h : i < ahead.length
  · have ih := ans_plain c g hg f ahead (i + 1)
    rw [ansFrom_step c f ahead i h, ih, hg, List.drop_eq_getElem_cons h, List.any_cons]
  · rw [List.drop_of_length_le (by omega)]
    unfold ansFrom
    rw [show ahead.length - i = 0 by omega]
    rfl
  termination_by ahead.length - i
end Go.Proofs.Ytedmancgpjpecaa
