/- A counter of one number put one further, with power cut anywhere: what stands, plainly. -/
import Derived.Test.YtphabggmbdpibaaDoorPackWr
import Derived.Test.YtphabggmbdpibaaDoorRootBoots
namespace Go.Proofs.YtphabggmbdpibaaDoor
open Go.RowKit
open Go.Lib (hid)

def chk1 (v c : Int) : Int := 1 + (c + v) % 999983

theorem chk1_bd (v c : Int) : 1 ≤ chk1 v c ∧ chk1 v c ≤ 1000000000 := by unfold chk1; omega

def inN (x : Int) : Prop := 0 ≤ x ∧ x ≤ 1000000000

/-- What stands is the number x, with the count c. -/
def StoodOne (W : List Int) (x c : Int) : Prop :=
  ∃ k0 v0 c0 k1 v1 c1, W = [k0, v0, c0, k1, v1, c1] ∧ (inN k0 ∧ inN v0 ∧ inN c0 ∧ inN k1 ∧ inN v1 ∧ inN c1) ∧ 1 ≤ c ∧
    ((k0 = chk1 x c ∧ v0 = x ∧ c0 = c ∧ (1 ≤ c1 → k1 = chk1 v1 c1 → c1 ≤ c)) ∨
     (k1 = chk1 x c ∧ v1 = x ∧ c1 = c ∧ (1 ≤ c0 → k0 = chk1 v0 c0 → c0 < c)))

theorem wholeL_three (k v c : Int) : wholeL [k, v, c] = (decide (1 ≤ c) && (k == chk1 v c)) := by
  unfold wholeL wholeB cpK cpN cpC chk1
  simp

theorem form_six {k0 v0 c0 k1 v1 c1 : Int} (h : inN k0 ∧ inN v0 ∧ inN c0 ∧ inN k1 ∧ inN v1 ∧ inN c1) : formB 1 [k0, v0, c0, k1, v1, c1] = true := by
  obtain ⟨h0, h1, h2, h3, h4, h5⟩ := h
  unfold inN at *
  unfold formB numbB
  simp [h0, h1, h2, h3, h4, h5]

theorem six_zero (k0 v0 c0 k1 v1 c1 : Int) : copyOf [k0, v0, c0, k1, v1, c1] 3 0 = [k0, v0, c0] := rfl
theorem six_one (k0 v0 c0 k1 v1 c1 : Int) : copyOf [k0, v0, c0, k1, v1, c1] 3 1 = [k1, v1, c1] := rfl
theorem cpC_three (k v c : Int) : cpC [k, v, c] = c := rfl
theorem cpN_three (k v c : Int) : cpN [k, v, c] = [v] := rfl

theorem sbest_one (k0 v0 c0 k1 v1 c1 : Int) : bestOf [k0, v0, c0, k1, v1, c1] 3 1 = if (decide (1 ≤ c0) && (k0 == chk1 v0 c0)) = true then (0, c0) else (-1, 0) := by
  show (if wholeL (copyOf [k0, v0, c0, k1, v1, c1] 3 0) && decide (cpC (copyOf [k0, v0, c0, k1, v1, c1] 3 0) > 0) then (((0 : Nat) : Int), cpC (copyOf [k0, v0, c0, k1, v1, c1] 3 0)) else (-1, 0)) = _
  rw [six_zero, wholeL_three, cpC_three]
  by_cases h : 1 ≤ c0
  · rw [decide_eq_true h, decide_eq_true (show c0 > 0 by omega), Bool.and_true]
    rfl
  · rw [decide_eq_false h]
    rfl

theorem sbest_two (k0 v0 c0 k1 v1 c1 : Int) : bestOf [k0, v0, c0, k1, v1, c1] 3 2 = if ((decide (1 ≤ c1) && (k1 == chk1 v1 c1)) && decide (c1 > (bestOf [k0, v0, c0, k1, v1, c1] 3 1).2)) = true then (1, c1) else bestOf [k0, v0, c0, k1, v1, c1] 3 1 := by
  show (if wholeL (copyOf [k0, v0, c0, k1, v1, c1] 3 1) && decide (cpC (copyOf [k0, v0, c0, k1, v1, c1] 3 1) > (bestOf [k0, v0, c0, k1, v1, c1] 3 1).2) then (((1 : Nat) : Int), cpC (copyOf [k0, v0, c0, k1, v1, c1] 3 1)) else bestOf [k0, v0, c0, k1, v1, c1] 3 1) = _
  rw [six_one, wholeL_three, cpC_three]
  rfl

theorem one_best {k0 v0 c0 k1 v1 c1 x c : Int} (hc : 1 ≤ c) :
    ((k0 = chk1 x c ∧ v0 = x ∧ c0 = c ∧ (1 ≤ c1 → k1 = chk1 v1 c1 → c1 ≤ c)) → bestOf [k0, v0, c0, k1, v1, c1] 3 2 = (0, c)) ∧
    ((k1 = chk1 x c ∧ v1 = x ∧ c1 = c ∧ (1 ≤ c0 → k0 = chk1 v0 c0 → c0 < c)) → bestOf [k0, v0, c0, k1, v1, c1] 3 2 = (1, c)) := by
  constructor
  · rintro ⟨h1, h2, h3, h5⟩
    subst h2 h3
    have e1 : bestOf [k0, v0, c0, k1, v1, c1] 3 1 = (0, c0) := by
      rw [sbest_one, if_pos]
      rw [decide_eq_true hc, h1]
      simp
    rw [sbest_two, e1, if_neg]
    intro h
    simp only [Bool.and_eq_true, decide_eq_true_eq, beq_iff_eq] at h
    have := h5 h.1.1 h.1.2
    omega
  · rintro ⟨h1, h2, h3, h5⟩
    subst h2 h3
    rw [sbest_two, if_pos]
    rw [decide_eq_true hc, h1, sbest_one]
    by_cases hw : (decide (1 ≤ c0) && (k0 == chk1 v0 c0)) = true
    · rw [if_pos hw]
      simp only [Bool.and_eq_true, decide_eq_true_eq, beq_iff_eq] at hw
      have := h5 hw.1 hw.2
      simp [this]
    · rw [if_neg hw]
      simp
      omega

theorem one_read {W : List Int} {x c : Int} (h : StoodOne W x c) : readOut 1 W = ([x], c, true) := by
  obtain ⟨k0, v0, c0, k1, v1, c1, rfl, ho, hc, hs⟩ := h
  unfold readOut
  rw [if_pos (form_six ho), show ((1 : Int).toNat + 2) = 3 from rfl]
  rcases hs with hs | hs
  · rw [(one_best hc).1 hs, if_neg (show ¬ (0 : Int) < 0 by decide)]
    obtain ⟨_, rfl, rfl, _⟩ := hs
    rfl
  · rw [(one_best hc).2 hs, if_neg (show ¬ (1 : Int) < 0 by decide)]
    obtain ⟨_, rfl, rfl, _⟩ := hs
    rfl

/-- What is read stands. -/
theorem one_of_read {W : List Int} (h : (readOut 1 W).2.2 = true) : ∃ x c, StoodOne W x c ∧ inN x ∧ inN c := by
  have hf : formB 1 W = true := by
    unfold readOut at h
    by_cases hf : formB 1 W = true
    · exact hf
    · rw [if_neg hf] at h; cases h
  have hfp := formB_iff.1 hf
  obtain ⟨hlen, hnb⟩ : W.length = 6 ∧ Numb W := by
    unfold FormP at hfp
    exact ⟨by omega, hfp.2.2.2⟩
  match W, hlen with
  | [k0, v0, c0, k1, v1, c1], _ =>
    have ho : inN k0 ∧ inN v0 ∧ inN c0 ∧ inN k1 ∧ inN v1 ∧ inN c1 := ⟨hnb _ (by simp), hnb _ (by simp), hnb _ (by simp), hnb _ (by simp), hnb _ (by simp), hnb _ (by simp)⟩
    unfold readOut at h
    rw [if_pos hf, show ((1 : Int).toNat + 2) = 3 from rfl] at h
    by_cases w0 : (decide (1 ≤ c0) && (k0 == chk1 v0 c0)) = true
    · have w0' := w0
      simp only [Bool.and_eq_true, decide_eq_true_eq, beq_iff_eq] at w0'
      by_cases w1 : (decide (1 ≤ c1) && (k1 == chk1 v1 c1)) = true ∧ c1 > c0
      · have w1' := w1.1
        simp only [Bool.and_eq_true, decide_eq_true_eq, beq_iff_eq] at w1'
        exact ⟨v1, c1, ⟨k0, v0, c0, k1, v1, c1, rfl, ho, w1'.1, Or.inr ⟨w1'.2, rfl, rfl, fun _ _ => w1.2⟩⟩, ho.2.2.2.2.1, ho.2.2.2.2.2⟩
      · refine ⟨v0, c0, ⟨k0, v0, c0, k1, v1, c1, rfl, ho, w0'.1, Or.inl ⟨w0'.2, rfl, rfl, fun h1 h2 => ?_⟩⟩, ho.2.1, ho.2.2.1⟩
        apply Int.not_lt.1
        intro hlt
        exact w1 ⟨by simp only [Bool.and_eq_true, decide_eq_true_eq, beq_iff_eq]; exact ⟨h1, h2⟩, hlt⟩
    · by_cases w1 : (decide (1 ≤ c1) && (k1 == chk1 v1 c1)) = true
      · have w1' := w1
        simp only [Bool.and_eq_true, decide_eq_true_eq, beq_iff_eq] at w1'
        refine ⟨v1, c1, ⟨k0, v0, c0, k1, v1, c1, rfl, ho, w1'.1, Or.inr ⟨w1'.2, rfl, rfl, fun h1 h2 => ?_⟩⟩, ho.2.2.2.2.1, ho.2.2.2.2.2⟩
        exact absurd (by simp only [Bool.and_eq_true, decide_eq_true_eq, beq_iff_eq]; exact ⟨h1, h2⟩) w0
      · exfalso
        have e : bestOf [k0, v0, c0, k1, v1, c1] 3 2 = (-1, 0) := by
          rw [sbest_two, sbest_one, if_neg w0, if_neg]
          intro hh
          rw [Bool.and_eq_true] at hh
          exact w1 hh.1
        rw [e, if_pos (show (-1 : Int) < 0 by decide)] at h
        cases h

theorem putW_one (at' : Nat) (m c : Int) : putW at' [m] c = [(at' : Int), 0, (at' : Int) + 1, m, (at' : Int) + 2, c, (at' : Int), chk1 m c] := by
  unfold putW tells flatW pad20 chk1
  simp [List.range_succ]
  omega

theorem can_one (at' : Nat) (ha : at' = 0 ∨ at' = 3) (m c : Int) (hm : inN m) (hc : inN c) : canB 6 [(at' : Int), 0, (at' : Int) + 1, m, (at' : Int) + 2, c, (at' : Int), chk1 m c] 4 = true := by
  have hk := chk1_bd m c
  unfold inN at hc hm
  unfold canB
  rw [Bool.and_eq_true]
  refine ⟨by decide, ?_⟩
  rw [List.all_eq_true]
  intro i hi
  have hi5 := List.mem_range.1 hi
  have : i = 0 ∨ i = 1 ∨ i = 2 ∨ i = 3 := by omega
  unfold wokB
  rcases ha with rfl | rfl <;> rcases this with rfl | rfl | rfl | rfl <;> simp <;> omega

/-- Whether the counter goes one further. -/
def goesB (x c cut : Int) : Bool := decide (x + 1 ≤ 1000000000 ∧ c ≠ 1000000000 ∧ 0 ≤ cut)

theorem one_writes {W : List Int} {x c : Int} (h : StoodOne W x c) (hx : 0 ≤ x) : putB 1 W [x + 1] = decide (x + 1 ≤ 1000000000 ∧ c ≠ 1000000000) := by
  unfold putB
  rw [one_read h]
  unfold valsB numbB
  by_cases h1 : x + 1 ≤ 1000000000 <;> by_cases h2 : c = 1000000000 <;> simp [h1, h2] <;> omega

theorem one_put {W : List Int} {x c cut : Int} (h : StoodOne W x c) (hx : inN x) (hc : inN c) :
    (goesB x c cut = false → putOut 1 W [x + 1] cut = (0, [], false)) ∧
    (goesB x c cut = true → ∃ W', putOut 1 W [x + 1] cut = (1, W', true) ∧ (if 4 ≤ cut then StoodOne W' (x + 1) (c + 1) else StoodOne W' x c)) := by
  have hpb := one_writes h hx.1
  constructor
  · intro hg
    unfold goesB at hg
    have hg2 := of_decide_eq_false hg
    by_cases hp : x + 1 ≤ 1000000000 ∧ c ≠ 1000000000
    · have hneg : cut < 0 := by
        apply Int.not_le.1
        intro h0
        exact hg2 ⟨hp.1, hp.2, h0⟩
      unfold putOut writesOut
      rw [hpb, decide_eq_true hp, if_pos rfl]
      unfold applyOut applyB
      simp [hneg]
    · have hw : (writesOut 1 W [x + 1]).2.2 = false := by
        unfold writesOut
        rw [hpb, decide_eq_false hp]
        rfl
      unfold putOut
      rw [hw]
      rfl
  · intro hg
    have hg2 := of_decide_eq_true hg
    obtain ⟨k0, v0, c0, k1, v1, c1, rfl, ho, hc1, hs⟩ := h
    have hrd := one_read ⟨k0, v0, c0, k1, v1, c1, rfl, ho, hc1, hs⟩
    have hfm := form_six ho
    rw [decide_eq_true (show x + 1 ≤ 1000000000 ∧ c ≠ 1000000000 from ⟨hg2.1, hg2.2.1⟩)] at hpb
    have hck := chk1_bd (x + 1) (c + 1)
    have hcc := hc.2
    have hok : inN (c + 1) := by unfold inN; omega
    have om : inN (x + 1) := by have := hx.1; unfold inN; omega
    obtain ⟨o0, o1, o2, o3, o4, o5⟩ := ho
    have oz : inN 0 := by unfold inN; omega
    have ock : inN (chk1 (x + 1) (c + 1)) := by unfold inN; omega
    have hmin : min cut.toNat 4 = 0 ∧ cut = 0 ∨ min cut.toNat 4 = 1 ∧ cut = 1 ∨ min cut.toNat 4 = 2 ∧ cut = 2 ∨ min cut.toNat 4 = 3 ∧ cut = 3 ∨ min cut.toNat 4 = 4 ∧ 4 ≤ cut := by omega
    rcases hs with hs | hs
    · have hb := (one_best hc1).1 hs
      have hw : writesOut 1 [k0, v0, c0, k1, v1, c1] [x + 1] = (4, putW 3 [x + 1] (c + 1), true) := by
        unfold writesOut
        rw [if_pos hpb, show ([x + 1] : List Int).length + 2 = 3 from rfl, hb, if_pos rfl, hrd]
        rfl
      have hap : applyB 1 [k0, v0, c0, k1, v1, c1] 4 (putW 3 [x + 1] (c + 1)) cut = true := by
        unfold applyB
        rw [hfm, putW_one, show ([k0, v0, c0, k1, v1, c1] : List Int).length = 6 from rfl, can_one 3 (Or.inr rfl) (x + 1) (c + 1) om hok]
        simp
        omega
      refine ⟨doneW (putW 3 [x + 1] (c + 1)) [k0, v0, c0, k1, v1, c1] (min cut.toNat 4), ?_, ?_⟩
      · unfold putOut
        rw [hw, if_pos rfl]
        dsimp only
        unfold applyOut
        rw [if_pos hap]
      · rw [putW_one]
        rcases hmin with ⟨e, hq⟩ | ⟨e, hq⟩ | ⟨e, hq⟩ | ⟨e, hq⟩ | ⟨e, hq⟩ <;> rw [e]
        · rw [if_neg (by omega)]
          exact ⟨k0, v0, c0, k1, v1, c1, rfl, ⟨o0, o1, o2, o3, o4, o5⟩, hc1, Or.inl hs⟩
        · rw [if_neg (by omega)]
          exact ⟨k0, v0, c0, 0, v1, c1, rfl, ⟨o0, o1, o2, oz, o4, o5⟩, hc1, Or.inl ⟨hs.1, hs.2.1, hs.2.2.1, fun _ hk => by have := (chk1_bd v1 c1).1; omega⟩⟩
        · rw [if_neg (by omega)]
          exact ⟨k0, v0, c0, 0, x + 1, c1, rfl, ⟨o0, o1, o2, oz, om, o5⟩, hc1, Or.inl ⟨hs.1, hs.2.1, hs.2.2.1, fun _ hk => by have := (chk1_bd (x + 1) c1).1; omega⟩⟩
        · rw [if_neg (by omega)]
          exact ⟨k0, v0, c0, 0, x + 1, c + 1, rfl, ⟨o0, o1, o2, oz, om, hok⟩, hc1, Or.inl ⟨hs.1, hs.2.1, hs.2.2.1, fun _ hk => by omega⟩⟩
        · rw [if_pos hq]
          exact ⟨k0, v0, c0, chk1 (x + 1) (c + 1), x + 1, c + 1, rfl, ⟨o0, o1, o2, ock, om, hok⟩, by omega, Or.inr ⟨rfl, rfl, rfl, fun _ _ => by have := hs.2.2.1; omega⟩⟩
    · have hb := (one_best hc1).2 hs
      have hw : writesOut 1 [k0, v0, c0, k1, v1, c1] [x + 1] = (4, putW 0 [x + 1] (c + 1), true) := by
        unfold writesOut
        rw [if_pos hpb, show ([x + 1] : List Int).length + 2 = 3 from rfl, hb, if_neg (show ¬ (1 : Int) = 0 by decide), hrd]
        rfl
      have hap : applyB 1 [k0, v0, c0, k1, v1, c1] 4 (putW 0 [x + 1] (c + 1)) cut = true := by
        unfold applyB
        rw [hfm, putW_one, show ([k0, v0, c0, k1, v1, c1] : List Int).length = 6 from rfl, can_one 0 (Or.inl rfl) (x + 1) (c + 1) om hok]
        simp
        omega
      refine ⟨doneW (putW 0 [x + 1] (c + 1)) [k0, v0, c0, k1, v1, c1] (min cut.toNat 4), ?_, ?_⟩
      · unfold putOut
        rw [hw, if_pos rfl]
        dsimp only
        unfold applyOut
        rw [if_pos hap]
      · rw [putW_one]
        rcases hmin with ⟨e, hq⟩ | ⟨e, hq⟩ | ⟨e, hq⟩ | ⟨e, hq⟩ | ⟨e, hq⟩ <;> rw [e]
        · rw [if_neg (by omega)]
          exact ⟨k0, v0, c0, k1, v1, c1, rfl, ⟨o0, o1, o2, o3, o4, o5⟩, hc1, Or.inr hs⟩
        · rw [if_neg (by omega)]
          exact ⟨0, v0, c0, k1, v1, c1, rfl, ⟨oz, o1, o2, o3, o4, o5⟩, hc1, Or.inr ⟨hs.1, hs.2.1, hs.2.2.1, fun _ hk => by have := (chk1_bd v0 c0).1; omega⟩⟩
        · rw [if_neg (by omega)]
          exact ⟨0, x + 1, c0, k1, v1, c1, rfl, ⟨oz, om, o2, o3, o4, o5⟩, hc1, Or.inr ⟨hs.1, hs.2.1, hs.2.2.1, fun _ hk => by have := (chk1_bd (x + 1) c0).1; omega⟩⟩
        · rw [if_neg (by omega)]
          exact ⟨0, x + 1, c + 1, k1, v1, c1, rfl, ⟨oz, om, hok, o3, o4, o5⟩, hc1, Or.inr ⟨hs.1, hs.2.1, hs.2.2.1, fun _ hk => by omega⟩⟩
        · rw [if_pos hq]
          exact ⟨chk1 (x + 1) (c + 1), x + 1, c + 1, k1, v1, c1, rfl, ⟨ock, om, hok, o3, o4, o5⟩, by omega, Or.inl ⟨rfl, rfl, rfl, fun _ _ => by have := hs.2.2.1; omega⟩⟩

theorem one_len {W : List Int} {x c : Int} (h : StoodOne W x c) : W.length = 6 := by
  obtain ⟨_, _, _, _, _, _, rfl, _⟩ := h
  rfl
end Go.Proofs.YtphabggmbdpibaaDoor
