/- Two numbers put again and again, with power cut anywhere: what stands, plainly. -/
import Derived.Test.YtcjlfmocmkkfiaaNvPutBoth
import Derived.Test.YtcjlfmocmkkfiaaNvNewBoth
namespace Go.Proofs.Ytcjlfmocmkkfiaa
open Go.RowKit
open Go.Lib (hid)

def chk (a b c : Int) : Int := 1 + (c + (a + b)) % 999983

theorem chk_bd (a b c : Int) : 1 ≤ chk a b c ∧ chk a b c ≤ 1000000000 := by unfold chk; omega

def okN (x : Int) : Prop := 0 ≤ x ∧ x ≤ 1000000000

/-- What stands are the numbers n and 2n, with the count c. -/
def Stood (W : List Int) (n c : Int) : Prop :=
  ∃ k0 a0 b0 c0 k1 a1 b1 c1, W = [k0, a0, b0, c0, k1, a1, b1, c1] ∧ (okN k0 ∧ okN a0 ∧ okN b0 ∧ okN c0 ∧ okN k1 ∧ okN a1 ∧ okN b1 ∧ okN c1) ∧ 1 ≤ c ∧
    ((k0 = chk n (2 * n) c ∧ a0 = n ∧ b0 = 2 * n ∧ c0 = c ∧ (1 ≤ c1 → k1 = chk a1 b1 c1 → c1 ≤ c)) ∨
     (k1 = chk n (2 * n) c ∧ a1 = n ∧ b1 = 2 * n ∧ c1 = c ∧ (1 ≤ c0 → k0 = chk a0 b0 c0 → c0 < c)))

theorem wholeL_four (k a b c : Int) : wholeL [k, a, b, c] = (decide (1 ≤ c) && (k == chk a b c)) := by
  unfold wholeL wholeB cpK cpN cpC chk
  simp

theorem numbB_eight {k0 a0 b0 c0 k1 a1 b1 c1 : Int} (h : okN k0 ∧ okN a0 ∧ okN b0 ∧ okN c0 ∧ okN k1 ∧ okN a1 ∧ okN b1 ∧ okN c1) : formB 2 [k0, a0, b0, c0, k1, a1, b1, c1] = true := by
  obtain ⟨h0, h1, h2, h3, h4, h5, h6, h7⟩ := h
  unfold okN at *
  unfold formB numbB
  simp [h0, h1, h2, h3, h4, h5, h6, h7]

theorem copy_zero (k0 a0 b0 c0 k1 a1 b1 c1 : Int) : copyOf [k0, a0, b0, c0, k1, a1, b1, c1] 4 0 = [k0, a0, b0, c0] := rfl
theorem copy_one (k0 a0 b0 c0 k1 a1 b1 c1 : Int) : copyOf [k0, a0, b0, c0, k1, a1, b1, c1] 4 1 = [k1, a1, b1, c1] := rfl
theorem cpC_four (k a b c : Int) : cpC [k, a, b, c] = c := rfl
theorem cpN_four (k a b c : Int) : cpN [k, a, b, c] = [a, b] := rfl

theorem best_one (k0 a0 b0 c0 k1 a1 b1 c1 : Int) : bestOf [k0, a0, b0, c0, k1, a1, b1, c1] 4 1 = if (decide (1 ≤ c0) && (k0 == chk a0 b0 c0)) = true then (0, c0) else (-1, 0) := by
  show (if wholeL (copyOf [k0, a0, b0, c0, k1, a1, b1, c1] 4 0) && decide (cpC (copyOf [k0, a0, b0, c0, k1, a1, b1, c1] 4 0) > 0) then (((0 : Nat) : Int), cpC (copyOf [k0, a0, b0, c0, k1, a1, b1, c1] 4 0)) else (-1, 0)) = _
  rw [copy_zero, wholeL_four, cpC_four]
  by_cases h : 1 ≤ c0
  · rw [decide_eq_true h, decide_eq_true (show c0 > 0 by omega), Bool.and_true]
    rfl
  · rw [decide_eq_false h]
    rfl

theorem best_two (k0 a0 b0 c0 k1 a1 b1 c1 : Int) : bestOf [k0, a0, b0, c0, k1, a1, b1, c1] 4 2 = if ((decide (1 ≤ c1) && (k1 == chk a1 b1 c1)) && decide (c1 > (bestOf [k0, a0, b0, c0, k1, a1, b1, c1] 4 1).2)) = true then (1, c1) else bestOf [k0, a0, b0, c0, k1, a1, b1, c1] 4 1 := by
  show (if wholeL (copyOf [k0, a0, b0, c0, k1, a1, b1, c1] 4 1) && decide (cpC (copyOf [k0, a0, b0, c0, k1, a1, b1, c1] 4 1) > (bestOf [k0, a0, b0, c0, k1, a1, b1, c1] 4 1).2) then (((1 : Nat) : Int), cpC (copyOf [k0, a0, b0, c0, k1, a1, b1, c1] 4 1)) else bestOf [k0, a0, b0, c0, k1, a1, b1, c1] 4 1) = _
  rw [copy_one, wholeL_four, cpC_four]
  rfl

/-- Which copy stands. -/
theorem stood_best {k0 a0 b0 c0 k1 a1 b1 c1 n c : Int} (hc : 1 ≤ c) :
    ((k0 = chk n (2 * n) c ∧ a0 = n ∧ b0 = 2 * n ∧ c0 = c ∧ (1 ≤ c1 → k1 = chk a1 b1 c1 → c1 ≤ c)) → bestOf [k0, a0, b0, c0, k1, a1, b1, c1] 4 2 = (0, c)) ∧
    ((k1 = chk n (2 * n) c ∧ a1 = n ∧ b1 = 2 * n ∧ c1 = c ∧ (1 ≤ c0 → k0 = chk a0 b0 c0 → c0 < c)) → bestOf [k0, a0, b0, c0, k1, a1, b1, c1] 4 2 = (1, c)) := by
  constructor
  · rintro ⟨h1, h2, h3, h4, h5⟩
    subst h2 h3 h4
    have e1 : bestOf [k0, a0, 2 * a0, c0, k1, a1, b1, c1] 4 1 = (0, c0) := by
      rw [best_one, if_pos]
      rw [decide_eq_true hc, h1]
      simp
    rw [best_two, e1, if_neg]
    intro h
    simp only [Bool.and_eq_true, decide_eq_true_eq, beq_iff_eq] at h
    have := h5 h.1.1 h.1.2
    omega
  · rintro ⟨h1, h2, h3, h4, h5⟩
    subst h2 h3 h4
    rw [best_two, if_pos]
    rw [decide_eq_true hc, h1, best_one]
    by_cases hw : (decide (1 ≤ c0) && (k0 == chk a0 b0 c0)) = true
    · rw [if_pos hw]
      simp only [Bool.and_eq_true, decide_eq_true_eq, beq_iff_eq] at hw
      have := h5 hw.1 hw.2
      simp [this]
    · rw [if_neg hw]
      simp
      omega

theorem stood_read {W : List Int} {n c : Int} (h : Stood W n c) : readOut 2 W = ([n, 2 * n], c, true) := by
  obtain ⟨k0, a0, b0, c0, k1, a1, b1, c1, rfl, ho, hc, hs⟩ := h
  unfold readOut
  rw [if_pos (numbB_eight ho), show ((2 : Int).toNat + 2) = 4 from rfl]
  rcases hs with hs | hs
  · rw [(stood_best hc).1 hs, if_neg (show ¬ (0 : Int) < 0 by decide)]
    obtain ⟨_, rfl, rfl, rfl, _⟩ := hs
    rfl
  · rw [(stood_best hc).2 hs, if_neg (show ¬ (1 : Int) < 0 by decide)]
    obtain ⟨_, rfl, rfl, rfl, _⟩ := hs
    rfl

theorem new_stood : newOut [0, 0] = (2, newWords [0, 0], true) ∧ Stood (newWords [0, 0]) 0 1 := by
  refine ⟨by decide +kernel, ?_⟩
  refine ⟨2, 0, 0, 1, 0, 0, 0, 0, by decide +kernel, ?_, by decide, Or.inl ⟨by decide +kernel, rfl, rfl, rfl, fun h => absurd h (by decide)⟩⟩
  unfold okN
  omega

theorem putW_two (at' : Nat) (m c : Int) : putW at' [m, 2 * m] c = [(at' : Int), 0, (at' : Int) + 1, m, (at' : Int) + 2, 2 * m, (at' : Int) + 3, c, (at' : Int), chk m (2 * m) c] := by
  unfold putW tells flatW pad20 chk
  simp [List.range_succ]
  omega

theorem can_two (at' : Nat) (ha : at' = 0 ∨ at' = 4) (m c : Int) (hm : 0 ≤ m) (hm2 : 2 * m ≤ 1000000000) (hc : okN c) : canB 8 [(at' : Int), 0, (at' : Int) + 1, m, (at' : Int) + 2, 2 * m, (at' : Int) + 3, c, (at' : Int), chk m (2 * m) c] 5 = true := by
  have hk := chk_bd m (2 * m) c
  unfold okN at hc
  unfold canB
  rw [Bool.and_eq_true]
  refine ⟨by decide, ?_⟩
  rw [List.all_eq_true]
  intro i hi
  have hi5 := List.mem_range.1 hi
  have : i = 0 ∨ i = 1 ∨ i = 2 ∨ i = 3 ∨ i = 4 := by omega
  unfold wokB
  rcases ha with rfl | rfl <;> rcases this with rfl | rfl | rfl | rfl | rfl <;> simp <;> omega

theorem put_two {W : List Int} {n c m cut : Int} (h : Stood W n c) (hc : c ≤ 1000) (hm : 0 ≤ m) (hm2 : m ≤ 1000) (h0 : 0 ≤ cut) (h6 : cut ≤ 6) :
    ∃ W', putOut 2 W [m, 2 * m] cut = (2, W', true) ∧ (if 5 ≤ cut then Stood W' m (c + 1) else Stood W' n c) := by
  have hrd := stood_read h
  obtain ⟨k0, a0, b0, c0, k1, a1, b1, c1, rfl, ho, hc1, hs⟩ := h
  have hfm := numbB_eight ho
  have hv : valsB [m, 2 * m] 2 = true := by
    unfold valsB numbB
    simp
    omega
  have hput : putB 2 [k0, a0, b0, c0, k1, a1, b1, c1] [m, 2 * m] = true := by
    unfold putB
    rw [hrd, hv]
    simp
    omega
  have hck := chk_bd m (2 * m) (c + 1)
  have hcut : cut = 0 ∨ cut = 1 ∨ cut = 2 ∨ cut = 3 ∨ cut = 4 ∨ cut = 5 ∨ cut = 6 := by omega
  have hok : okN (c + 1) := by unfold okN; omega
  obtain ⟨o0, o1, o2, o3, o4, o5, o6, o7⟩ := ho
  have om : okN m := by unfold okN; omega
  have om2 : okN (2 * m) := by unfold okN; omega
  have oz : okN 0 := by unfold okN; omega
  have ock : okN (chk m (2 * m) (c + 1)) := by unfold okN; omega
  rcases hs with hs | hs
  · have hb := (stood_best hc1).1 hs
    have hw : writesOut 2 [k0, a0, b0, c0, k1, a1, b1, c1] [m, 2 * m] = (5, putW 4 [m, 2 * m] (c + 1), true) := by
      unfold writesOut
      rw [if_pos hput, show ([m, 2 * m] : List Int).length + 2 = 4 from rfl, hb, if_pos rfl, hrd]
      rfl
    have hap : applyB 2 [k0, a0, b0, c0, k1, a1, b1, c1] 5 (putW 4 [m, 2 * m] (c + 1)) cut = true := by
      unfold applyB
      rw [hfm, putW_two, show ([k0, a0, b0, c0, k1, a1, b1, c1] : List Int).length = 8 from rfl, can_two 4 (Or.inr rfl) m (c + 1) hm (by omega) hok]
      simp
      omega
    refine ⟨doneW (putW 4 [m, 2 * m] (c + 1)) [k0, a0, b0, c0, k1, a1, b1, c1] (min cut.toNat 5), ?_, ?_⟩
    · unfold putOut
      rw [hw, if_pos rfl]
      dsimp only
      unfold applyOut
      rw [if_pos hap]
    · rw [putW_two]
      rcases hcut with rfl | rfl | rfl | rfl | rfl | rfl | rfl
      · rw [if_neg (by decide)]
        exact ⟨k0, a0, b0, c0, k1, a1, b1, c1, rfl, ⟨o0, o1, o2, o3, o4, o5, o6, o7⟩, hc1, Or.inl hs⟩
      · rw [if_neg (by decide)]
        exact ⟨k0, a0, b0, c0, 0, a1, b1, c1, rfl, ⟨o0, o1, o2, o3, oz, o5, o6, o7⟩, hc1, Or.inl ⟨hs.1, hs.2.1, hs.2.2.1, hs.2.2.2.1, fun _ hk => by have := (chk_bd a1 b1 c1).1; omega⟩⟩
      · rw [if_neg (by decide)]
        exact ⟨k0, a0, b0, c0, 0, m, b1, c1, rfl, ⟨o0, o1, o2, o3, oz, om, o6, o7⟩, hc1, Or.inl ⟨hs.1, hs.2.1, hs.2.2.1, hs.2.2.2.1, fun _ hk => by have := (chk_bd m b1 c1).1; omega⟩⟩
      · rw [if_neg (by decide)]
        exact ⟨k0, a0, b0, c0, 0, m, 2 * m, c1, rfl, ⟨o0, o1, o2, o3, oz, om, om2, o7⟩, hc1, Or.inl ⟨hs.1, hs.2.1, hs.2.2.1, hs.2.2.2.1, fun _ hk => by have := (chk_bd m (2 * m) c1).1; omega⟩⟩
      · rw [if_neg (by decide)]
        exact ⟨k0, a0, b0, c0, 0, m, 2 * m, c + 1, rfl, ⟨o0, o1, o2, o3, oz, om, om2, hok⟩, hc1, Or.inl ⟨hs.1, hs.2.1, hs.2.2.1, hs.2.2.2.1, fun _ hk => by omega⟩⟩
      · rw [if_pos (by decide)]
        exact ⟨k0, a0, b0, c0, chk m (2 * m) (c + 1), m, 2 * m, c + 1, rfl, ⟨o0, o1, o2, o3, ock, om, om2, hok⟩, by omega, Or.inr ⟨rfl, rfl, rfl, rfl, fun _ _ => by have := hs.2.2.2.1; omega⟩⟩
      · rw [if_pos (by decide)]
        exact ⟨k0, a0, b0, c0, chk m (2 * m) (c + 1), m, 2 * m, c + 1, rfl, ⟨o0, o1, o2, o3, ock, om, om2, hok⟩, by omega, Or.inr ⟨rfl, rfl, rfl, rfl, fun _ _ => by have := hs.2.2.2.1; omega⟩⟩
  · have hb := (stood_best hc1).2 hs
    have hw : writesOut 2 [k0, a0, b0, c0, k1, a1, b1, c1] [m, 2 * m] = (5, putW 0 [m, 2 * m] (c + 1), true) := by
      unfold writesOut
      rw [if_pos hput, show ([m, 2 * m] : List Int).length + 2 = 4 from rfl, hb, if_neg (show ¬ (1 : Int) = 0 by decide), hrd]
      rfl
    have hap : applyB 2 [k0, a0, b0, c0, k1, a1, b1, c1] 5 (putW 0 [m, 2 * m] (c + 1)) cut = true := by
      unfold applyB
      rw [hfm, putW_two, show ([k0, a0, b0, c0, k1, a1, b1, c1] : List Int).length = 8 from rfl, can_two 0 (Or.inl rfl) m (c + 1) hm (by omega) hok]
      simp
      omega
    refine ⟨doneW (putW 0 [m, 2 * m] (c + 1)) [k0, a0, b0, c0, k1, a1, b1, c1] (min cut.toNat 5), ?_, ?_⟩
    · unfold putOut
      rw [hw, if_pos rfl]
      dsimp only
      unfold applyOut
      rw [if_pos hap]
    · rw [putW_two]
      rcases hcut with rfl | rfl | rfl | rfl | rfl | rfl | rfl
      · rw [if_neg (by decide)]
        exact ⟨k0, a0, b0, c0, k1, a1, b1, c1, rfl, ⟨o0, o1, o2, o3, o4, o5, o6, o7⟩, hc1, Or.inr hs⟩
      · rw [if_neg (by decide)]
        exact ⟨0, a0, b0, c0, k1, a1, b1, c1, rfl, ⟨oz, o1, o2, o3, o4, o5, o6, o7⟩, hc1, Or.inr ⟨hs.1, hs.2.1, hs.2.2.1, hs.2.2.2.1, fun _ hk => by have := (chk_bd a0 b0 c0).1; omega⟩⟩
      · rw [if_neg (by decide)]
        exact ⟨0, m, b0, c0, k1, a1, b1, c1, rfl, ⟨oz, om, o2, o3, o4, o5, o6, o7⟩, hc1, Or.inr ⟨hs.1, hs.2.1, hs.2.2.1, hs.2.2.2.1, fun _ hk => by have := (chk_bd m b0 c0).1; omega⟩⟩
      · rw [if_neg (by decide)]
        exact ⟨0, m, 2 * m, c0, k1, a1, b1, c1, rfl, ⟨oz, om, om2, o3, o4, o5, o6, o7⟩, hc1, Or.inr ⟨hs.1, hs.2.1, hs.2.2.1, hs.2.2.2.1, fun _ hk => by have := (chk_bd m (2 * m) c0).1; omega⟩⟩
      · rw [if_neg (by decide)]
        exact ⟨0, m, 2 * m, c + 1, k1, a1, b1, c1, rfl, ⟨oz, om, om2, hok, o4, o5, o6, o7⟩, hc1, Or.inr ⟨hs.1, hs.2.1, hs.2.2.1, hs.2.2.2.1, fun _ hk => by omega⟩⟩
      · rw [if_pos (by decide)]
        exact ⟨chk m (2 * m) (c + 1), m, 2 * m, c + 1, k1, a1, b1, c1, rfl, ⟨ock, om, om2, hok, o4, o5, o6, o7⟩, by omega, Or.inl ⟨rfl, rfl, rfl, rfl, fun _ _ => by have := hs.2.2.2.1; omega⟩⟩
      · rw [if_pos (by decide)]
        exact ⟨chk m (2 * m) (c + 1), m, 2 * m, c + 1, k1, a1, b1, c1, rfl, ⟨ock, om, om2, hok, o4, o5, o6, o7⟩, by omega, Or.inl ⟨rfl, rfl, rfl, rfl, fun _ _ => by have := hs.2.2.2.1; omega⟩⟩

theorem stood_len {W : List Int} {n c : Int} (h : Stood W n c) : W.length = 8 := by
  obtain ⟨_, _, _, _, _, _, _, _, rfl, _⟩ := h
  rfl
end Go.Proofs.Ytcjlfmocmkkfiaa
