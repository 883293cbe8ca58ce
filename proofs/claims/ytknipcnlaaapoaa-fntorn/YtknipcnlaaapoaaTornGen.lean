/- Numbers put with power cut anywhere, for every size: what stands, plainly. -/
import Derived.Test.YtknipcnlaaapoaaNvPutBoth
namespace Go.Proofs.Ytknipcnlaaapoaa
open Go.RowKit
open Go.Lib (hid)

theorem flat_at : ∀ (ws : List (Nat × Int)) (i p : Nat) (v : Int), ws[i]? = some (p, v) → (flatW ws).getD (i * 2) 0 = (p : Int) ∧ (flatW ws).getD (i * 2 + 1) 0 = v
  | [], i, p, v, h => by simp at h
  | x :: ws, 0, p, v, h => by
    simp at h
    subst h
    exact ⟨rfl, rfl⟩
  | x :: ws, i + 1, p, v, h => by
    have h1 : ws[i]? = some (p, v) := by simpa using h
    have h2 := flat_at ws i p v h1
    have e : flatW (x :: ws) = (x.1 : Int) :: x.2 :: flatW ws := rfl
    rw [e, show (i + 1) * 2 = i * 2 + 1 + 1 by omega]
    exact h2

theorem done_step {T : List (Nat × Int)} {L : List Int} {i p : Nat} {v : Int} (h : T[i]? = some (p, v)) : doneW (flatW T) L (i + 1) = (doneW (flatW T) L i).set p v := by
  obtain ⟨h1, h2⟩ := flat_at T i p v h
  show (doneW (flatW T) L i).set _ _ = _
  rw [h1, h2]
  rfl

/-- The writes of one copy, one by one. -/
theorem tell_at (a m : Nat) (ns : List Int) (k c : Int) (i : Nat) (h : i < m + 3) :
    (i = 0 ∧ (tells a m ns k c)[i]? = some (a, 0)) ∨ (∃ q, i = q + 1 ∧ q < m ∧ (tells a m ns k c)[i]? = some (a + 1 + q, ns.getD q 0)) ∨ (i = m + 1 ∧ (tells a m ns k c)[i]? = some (a + 1 + m, c)) ∨ (i = m + 2 ∧ (tells a m ns k c)[i]? = some (a, k)) := by
  rcases Nat.eq_zero_or_pos i with h0 | h0
  · exact Or.inl ⟨h0, by rw [h0]; rfl⟩
  · obtain ⟨q, rfl⟩ : ∃ q, i = q + 1 := ⟨i - 1, by omega⟩
    rcases Nat.lt_or_ge q m with h1 | h1
    · exact Or.inr (Or.inl ⟨q, rfl, h1, tells_mid a m ns k c q h1⟩)
    · rcases Nat.lt_or_ge q (m + 1) with h2 | h2
      · obtain rfl : q = m := by omega
        exact Or.inr (Or.inr (Or.inl ⟨rfl, tells_cnt a q ns k c⟩))
      · obtain rfl : q = m + 1 := by omega
        exact Or.inr (Or.inr (Or.inr ⟨rfl, tells_chk a m ns k c⟩))

theorem done_far (a m : Nat) (ns : List Int) (k c : Int) (L : List Int) (p : Nat) (hp : p < a ∨ a + m + 2 ≤ p) : ∀ t, t ≤ m + 3 → (doneW (flatW (tells a m ns k c)) L t)[p]? = L[p]?
  | 0, _ => rfl
  | t + 1, ht => by
    have ih := done_far a m ns k c L p hp t (by omega)
    rcases tell_at a m ns k c t (by omega) with ⟨_, h⟩ | ⟨q, _, hq, h⟩ | ⟨_, h⟩ | ⟨_, h⟩
    all_goals
      rw [done_step h, List.getElem?_set_ne (by omega)]
      exact ih

theorem done_open (a m : Nat) (ns : List Int) (k c : Int) (L : List Int) (ha : a < L.length) : ∀ t, 1 ≤ t → t ≤ m + 2 → (doneW (flatW (tells a m ns k c)) L t)[a]? = some 0
  | 0, h, _ => absurd h (by omega)
  | t + 1, _, ht => by
    rcases tell_at a m ns k c t (by omega) with ⟨h0, h⟩ | ⟨q, h0, hq, h⟩ | ⟨h0, h⟩ | ⟨h0, h⟩
    · rw [done_step h, List.getElem?_set_self (by rw [doneW_len]; exact ha)]
    · rw [done_step h, List.getElem?_set_ne (by omega)]
      exact done_open a m ns k c L ha t (by omega) (by omega)
    · rw [done_step h, List.getElem?_set_ne (by omega)]
      exact done_open a m ns k c L ha t (by omega) (by omega)
    · omega

theorem done_put (a m : Nat) (ns : List Int) (k c : Int) (L : List Int) (ha : a + m + 2 ≤ L.length) (q : Nat) (hq : q ≤ m) : ∀ t, q + 2 ≤ t → t ≤ m + 3 → (doneW (flatW (tells a m ns k c)) L t)[a + 1 + q]? = some (if q < m then ns.getD q 0 else c)
  | 0, h, _ => absurd h (by omega)
  | t + 1, h2, ht => by
    rcases tell_at a m ns k c t (by omega) with ⟨h0, h⟩ | ⟨r, h0, hr, h⟩ | ⟨h0, h⟩ | ⟨h0, h⟩
    · omega
    · rcases Nat.lt_or_ge q r with hqr | hqr
      · rw [done_step h, List.getElem?_set_ne (by omega)]
        exact done_put a m ns k c L ha q hq t (by omega) (by omega)
      · obtain rfl : q = r := by omega
        rw [done_step h, List.getElem?_set_self (by rw [doneW_len]; omega), if_pos hr]
    · rcases Nat.lt_or_ge q m with hqr | hqr
      · rw [done_step h, List.getElem?_set_ne (by omega)]
        exact done_put a m ns k c L ha q hq t (by omega) (by omega)
      · obtain rfl : q = m := by omega
        rw [done_step h, List.getElem?_set_self (by rw [doneW_len]; omega), if_neg (by omega)]
    · rw [done_step h, List.getElem?_set_ne (by omega)]
      exact done_put a m ns k c L ha q hq t (by omega) (by omega)

theorem done_shut (a m : Nat) (ns : List Int) (k c : Int) (L : List Int) (ha : a < L.length) : (doneW (flatW (tells a m ns k c)) L (m + 3))[a]? = some k := by
  rw [done_step (tells_chk a m ns k c), List.getElem?_set_self (by rw [doneW_len]; exact ha)]

/-- A copy by its place. -/
theorem copy_at (W : List Int) (h i p : Nat) (hi : i = 0 ∨ i = 1) (hp : p < h) : (copyOf W h i)[p]? = W[i * h + p]? := by
  unfold copyOf
  rcases hi with rfl | rfl
  · rw [if_pos rfl, List.getElem?_take_of_lt hp]
    congr 1
    omega
  · rw [if_neg (by decide), List.getElem?_drop]
    congr 1
    omega

theorem copy_same {W W' : List Int} {h i : Nat} (hi : i = 0 ∨ i = 1) (hl : W.length = 2 * h) (hl' : W'.length = 2 * h) (hs : ∀ p, p < h → W'[i * h + p]? = W[i * h + p]?) : copyOf W' h i = copyOf W h i := by
  apply List.ext_getElem?
  intro p
  rcases Nat.lt_or_ge p h with hp | hp
  · rw [copy_at W' h i p hi hp, copy_at W h i p hi hp, hs p hp]
  · rw [List.getElem?_eq_none (by rw [copyOf_len W' h i hl']; exact hp), List.getElem?_eq_none (by rw [copyOf_len W h i hl]; exact hp)]

theorem not_whole {l : List Int} (h : l[0]? = some 0) : wholeL l = false := by
  unfold wholeL wholeB cpK
  rw [List.getD_eq_getElem?_getD, h]
  have hne : ((some (0 : Int)).getD 0 == 1 + (cpC l + (cpN l).sum) % 999983) = false := by
    rw [beq_eq_false_iff_ne]
    show (0 : Int) ≠ _
    omega
  rw [hne, Bool.and_false]

/-- Which copy stands, by the two. -/
theorem best_is (W : List Int) (h : Nat) : (bestOf W h 2).1 = if wholeL (copyOf W h 1) && (!wholeL (copyOf W h 0) || decide (cpC (copyOf W h 1) > cpC (copyOf W h 0))) then 1 else if wholeL (copyOf W h 0) then 0 else -1 := by
  rw [bestOf_stand W h]
  unfold standP
  show (if (if (wholeL (copyOf W h 1) && (!wholeL (copyOf W h 0) || decide (cpC (copyOf W h 1) > cpC (copyOf W h 0)))) = true then ((1 : Int), true) else (0, wholeL (copyOf W h 0))).2 = true then (if (wholeL (copyOf W h 1) && (!wholeL (copyOf W h 0) || decide (cpC (copyOf W h 1) > cpC (copyOf W h 0)))) = true then ((1 : Int), true) else (0, wholeL (copyOf W h 0))).1 else -1) = _
  split
  · rfl
  · rfl

theorem best_whole {W : List Int} {h i : Nat} (hb : (bestOf W h 2).1 = (i : Int)) : (i = 0 ∨ i = 1) ∧ wholeL (copyOf W h i) = true ∧ (wholeL (copyOf W h (1 - i)) = true → cpC (copyOf W h (1 - i)) ≤ cpC (copyOf W h i)) := by
  rw [best_is] at hb
  split at hb
  · rename_i h1
    obtain rfl : i = 1 := by omega
    rw [Bool.and_eq_true] at h1
    refine ⟨Or.inr rfl, h1.1, fun h0 => ?_⟩
    have h0 : wholeL (copyOf W h 0) = true := h0
    rw [h0] at h1
    simp at h1
    show cpC (copyOf W h 0) ≤ cpC (copyOf W h 1)
    omega
  · rename_i h1
    split at hb
    · rename_i h2
      obtain rfl : i = 0 := by omega
      refine ⟨Or.inl rfl, h2, fun h0 => ?_⟩
      have h0 : wholeL (copyOf W h 1) = true := h0
      rw [h0, h2] at h1
      simp at h1
      exact h1
    · omega

theorem best_of_one {W : List Int} {h i : Nat} (hi : i = 0 ∨ i = 1) (hw : wholeL (copyOf W h i) = true) (ho : wholeL (copyOf W h (1 - i)) = false ∨ cpC (copyOf W h (1 - i)) < cpC (copyOf W h i)) : (bestOf W h 2).1 = (i : Int) := by
  rw [best_is]
  rcases hi with rfl | rfl
  · have ho : wholeL (copyOf W h 1) = false ∨ cpC (copyOf W h 1) < cpC (copyOf W h 0) := ho
    rw [if_neg, if_pos hw]
    · rfl
    · rw [hw]
      rcases ho with h1 | h1
      · rw [h1]; simp
      · rw [decide_eq_false (by omega)]; simp
  · have ho : wholeL (copyOf W h 0) = false ∨ cpC (copyOf W h 0) < cpC (copyOf W h 1) := ho
    rw [if_pos]
    · rfl
    · rw [hw]
      rcases ho with h1 | h1
      · rw [h1]; simp
      · rw [decide_eq_true (show cpC (copyOf W h 1) > cpC (copyOf W h 0) from h1)]; simp

theorem read_is {m : Nat} {W : List Int} {i : Nat} (hf : formB m W = true) (hb : (bestOf W (m + 2) 2).1 = (i : Int)) : readOut m W = (cpN (copyOf W (m + 2) i), cpC (copyOf W (m + 2) i), true) := by
  unfold readOut
  have ht : (m : Int).toNat = m := by omega
  rw [if_pos hf, ht, hb, if_neg (by omega), show (i : Int).toNat = i by omega]

/-- Whatever is cut: what stands is the new, wholly, or the old. -/
theorem torn {s : Int} {W vs : List Int} {cut : Int} (h : (putOut s W vs cut).2.2 = true) :
    (putOut s W vs cut).1 = s ∧ (putOut s W vs cut).2.1.length = W.length ∧ W.length ≤ 44 ∧ vs.length ≤ 20 ∧ (readOut s W).2.2 = true ∧ 0 ≤ (readOut s W).2.1 ∧ (readOut s W).2.1 < 1000000000 ∧
    (readOut s (putOut s W vs cut).2.1 = (vs, (readOut s W).2.1 + 1, true) ∨ (readOut s (putOut s W vs cut).2.1 = readOut s W ∧ cut < (vs.length : Int) + 3)) := by
  have hw : (writesOut s W vs).2.2 = true := by
    unfold putOut at h
    split at h
    · assumption
    · cases h
  have hp : putB s W vs = true := by
    unfold writesOut at hw
    split at hw
    · assumption
    · cases hw
  have hw1 : writesOut s W vs = (vs.length + 3, putW (if (bestOf W (vs.length + 2) 2).1 = 0 then vs.length + 2 else 0) vs ((readOut s W).2.1 + 1), true) := by
    unfold writesOut
    rw [if_pos hp]
  have hput : putOut s W vs cut = applyOut s W (writesOut s W vs).1 (writesOut s W vs).2.1 cut := by
    unfold putOut
    rw [if_pos hw]
  rw [hput, hw1] at h ⊢
  dsimp only at h ⊢
  have hap : applyB s W (vs.length + 3) (putW (if (bestOf W (vs.length + 2) 2).1 = 0 then vs.length + 2 else 0) vs ((readOut s W).2.1 + 1)) cut = true := by
    refine Classical.byContradiction fun hA => ?_
    unfold applyOut at h
    rw [if_neg hA] at h
    cases h
  unfold applyOut at h ⊢
  rw [if_pos hap]
  dsimp only
  unfold putB at hp
  simp only [Bool.and_eq_true, Bool.not_eq_true', beq_eq_false_iff_ne, ne_eq] at hp
  obtain ⟨⟨hr, hv⟩, hc⟩ := hp
  obtain ⟨hs1, hs20, hsv, hnv⟩ := valsB_iff.1 hv
  subst hsv
  have hfm : formB (vs.length : Int) W = true := by
    unfold readOut at hr
    split at hr
    · assumption
    · cases hr
  obtain ⟨_, _, hlW, hnW⟩ := formB_iff.1 hfm
  have hlW2 : W.length = 2 * (vs.length + 2) := by omega
  have hcut : 0 ≤ cut := by
    unfold applyB at hap
    simp only [Bool.and_eq_true, Bool.not_eq_true', decide_eq_false_iff_not] at hap
    omega
  have hbest : ∃ i : Nat, (bestOf W (vs.length + 2) 2).1 = (i : Int) := by
    rcases best_few W (vs.length + 2) with h1 | h1 | h1
    · have := read_fell vs.length W (by omega)
      rw [this] at hr
      cases hr
    · exact ⟨0, h1⟩
    · exact ⟨1, h1⟩
  obtain ⟨i, hbi⟩ := hbest
  obtain ⟨hi, hwi, hoi⟩ := best_whole hbi
  have hrd := read_is hfm hbi
  have hci : 1 ≤ cpC (copyOf W (vs.length + 2) i) := by
    unfold wholeL wholeB at hwi
    simp only [Bool.and_eq_true, decide_eq_true_eq] at hwi
    exact hwi.1
  have hcm : cpC (copyOf W (vs.length + 2) i) ≤ 1000000000 := by
    have hmem : cpC (copyOf W (vs.length + 2) i) ∈ copyOf W (vs.length + 2) i := by
      unfold cpC
      rw [List.getD_eq_getElem?_getD, List.getElem?_eq_getElem (by rw [copyOf_len W _ i hlW2]; omega)]
      exact List.getElem_mem _
    exact (copyOf_numb hnW _ i _ hmem).2
  rw [hrd] at hc ⊢
  dsimp only at hc ⊢
  have hat : (if (bestOf W (vs.length + 2) 2).1 = 0 then vs.length + 2 else 0) = (1 - i) * (vs.length + 2) := by
    rw [hbi]
    rcases hi with rfl | rfl
    · simp
    · simp
  rw [hat]
  generalize hC : cpC (copyOf W (vs.length + 2) i) = C at *
  have hlen : ∀ F t, (doneW F W t).length = 2 * (vs.length + 2) := fun F t => by rw [doneW_len]; exact hlW2
  refine ⟨rfl, by rw [hlen, hlW2], by omega, by omega, rfl, by omega, by omega, ?_⟩
  have hF : putW ((1 - i) * (vs.length + 2)) vs (C + 1) = flatW (tells ((1 - i) * (vs.length + 2)) vs.length (pad20 vs) (1 + (C + 1 + vs.sum) % 999983) (C + 1)) := rfl
  rw [hF]
  have h1i : 1 - i = 0 ∨ 1 - i = 1 := by omega
  have hpl : (1 - i) * (vs.length + 2) + vs.length + 2 ≤ W.length := by
    rw [hlW2]
    rcases h1i with h1 | h1 <;> rw [h1] <;> omega
  -- the words as they stand keep their form
  have hform : ∀ t, t ≤ vs.length + 3 → formB (vs.length : Int) (doneW (flatW (tells ((1 - i) * (vs.length + 2)) vs.length (pad20 vs) (1 + (C + 1 + vs.sum) % 999983) (C + 1))) W t) = true := by
    intro t ht
    refine formB_iff.2 ⟨hs1, hs20, by rw [doneW_len]; exact hlW, ?_⟩
    induction t with
    | zero => exact hnW
    | succ t ih =>
      have ih := ih (by omega)
      have hset : ∀ (L : List Int) (p : Nat) (v : Int), Numb L → (0 ≤ v ∧ v ≤ 1000000000) → Numb (L.set p v) := by
        intro L p v hL hv x hx
        rcases List.mem_or_eq_of_mem_set hx with h | h
        · exact hL x h
        · rw [h]; exact hv
      rcases tell_at ((1 - i) * (vs.length + 2)) vs.length (pad20 vs) (1 + (C + 1 + vs.sum) % 999983) (C + 1) t (by omega) with ⟨_, h⟩ | ⟨q, _, hq, h⟩ | ⟨_, h⟩ | ⟨_, h⟩
      · rw [done_step h]; exact hset _ _ _ ih (by omega)
      · rw [done_step h]
        refine hset _ _ _ ih (pad20_numb hnv _ ?_)
        rw [List.getD_eq_getElem?_getD, List.getElem?_eq_getElem (by rw [pad20_len vs (by omega)]; omega)]
        exact List.getElem_mem _
      · rw [done_step h]; exact hset _ _ _ ih (by omega)
      · rw [done_step h]; exact hset _ _ _ ih (by omega)
  have hsame : ∀ t, t ≤ vs.length + 3 → copyOf (doneW (flatW (tells ((1 - i) * (vs.length + 2)) vs.length (pad20 vs) (1 + (C + 1 + vs.sum) % 999983) (C + 1))) W t) (vs.length + 2) i = copyOf W (vs.length + 2) i := by
    intro t ht
    refine copy_same hi hlW2 (hlen _ _) (fun p hp => done_far _ _ _ _ _ _ _ ?_ t ht)
    rcases hi with rfl | rfl
    · left; omega
    · right; omega
  rcases Nat.lt_or_ge cut.toNat (vs.length + 3) with ht | ht
  · right
    rw [Nat.min_eq_left (by omega)]
    refine ⟨?_, by omega⟩
    rcases Nat.eq_zero_or_pos cut.toNat with h0 | h0
    · rw [h0]
      show readOut _ W = _
      rw [hrd]
    · have hb : (bestOf (doneW (flatW (tells ((1 - i) * (vs.length + 2)) vs.length (pad20 vs) (1 + (C + 1 + vs.sum) % 999983) (C + 1))) W cut.toNat) (vs.length + 2) 2).1 = (i : Int) := by
        refine best_of_one hi (by rw [hsame _ (by omega)]; exact hwi) (Or.inl (not_whole ?_))
        rw [copy_at _ _ _ 0 h1i (by omega), Nat.add_zero]
        exact done_open _ _ _ _ _ _ (by omega) _ h0 (by omega)
      rw [read_is (hform _ (by omega)) hb, hsame _ (by omega)]
      rw [hC]
  · left
    rw [Nat.min_eq_right ht]
    have hnew : copyOf (doneW (flatW (tells ((1 - i) * (vs.length + 2)) vs.length (pad20 vs) (1 + (C + 1 + vs.sum) % 999983) (C + 1))) W (vs.length + 3)) (vs.length + 2) (1 - i) = (1 + (C + 1 + vs.sum) % 999983) :: (vs ++ [C + 1]) := by
      apply List.ext_getElem?
      intro p
      rcases Nat.lt_or_ge p (vs.length + 2) with hp | hp
      · rw [copy_at _ _ _ p h1i hp]
        cases p with
        | zero => exact done_shut _ _ _ _ _ W (by omega)
        | succ q =>
          rw [show (1 - i) * (vs.length + 2) + (q + 1) = (1 - i) * (vs.length + 2) + 1 + q by omega, done_put _ _ _ _ _ _ hpl q (by omega) _ (by omega) (Nat.le_refl _), List.getElem?_cons_succ]
          rcases Nat.lt_or_ge q vs.length with hq | hq
          · rw [if_pos hq, List.getElem?_append_left hq, List.getElem?_eq_getElem hq]
            unfold pad20
            rw [List.getD_eq_getElem?_getD, List.getElem?_append_left hq, List.getElem?_eq_getElem hq]
            rfl
          · obtain rfl : q = vs.length := by omega
            rw [if_neg (by omega), List.getElem?_append_right (Nat.le_refl _), Nat.sub_self]
            rfl
      · rw [List.getElem?_eq_none (by rw [copyOf_len _ _ _ (hlen _ _)]; exact hp), List.getElem?_eq_none (by simp; omega)]
    have hK : cpK ((1 + (C + 1 + vs.sum) % 999983) :: (vs ++ [C + 1])) = 1 + (C + 1 + vs.sum) % 999983 := rfl
    have hN : cpN ((1 + (C + 1 + vs.sum) % 999983) :: (vs ++ [C + 1])) = vs := by
      unfold cpN
      simp
    have hCC : cpC ((1 + (C + 1 + vs.sum) % 999983) :: (vs ++ [C + 1])) = C + 1 := by
      unfold cpC
      simp
    have hb : (bestOf (doneW (flatW (tells ((1 - i) * (vs.length + 2)) vs.length (pad20 vs) (1 + (C + 1 + vs.sum) % 999983) (C + 1))) W (vs.length + 3)) (vs.length + 2) 2).1 = ((1 - i : Nat) : Int) := by
      refine best_of_one h1i ?_ (Or.inr ?_)
      · rw [hnew]
        unfold wholeL wholeB
        rw [hK, hN, hCC, decide_eq_true (by omega)]
        simp
      · rw [show 1 - (1 - i) = i by omega, hsame _ (Nat.le_refl _), hnew, hCC, hC]
        omega
    rw [read_is (hform _ (Nat.le_refl _)) hb, hnew, hN, hCC]
end Go.Proofs.Ytknipcnlaaapoaa
