/- Rows of structs whose cells are scalars: how they lie, in an owned row, in a row that is read, in one that came in; setting one struct; counts that are added up. Plain; no condition but what each names. -/
import Derived.Test.YtjaaplcgphlccaaGreatDoorProg
import Derived.Test.YtjaaplcgphlccaaGreatDoorBase
import Derived.WalkSpells
import Derived.WalkLawsBesides
import Derived.Laws.MakeOwn
import Derived.Laws.OwnMore
namespace Go.Proofs.YtjaaplcgphlccaaGreatDoor
open Go.RowKit
open Go.Lib (hid)

variable {α : Type}

theorem below_hop {B : Nat} {a b c : World} (h : Below B a b) (hB : B ≤ a.heap.size) (k : Below b.heap.size b c) : Below B a c := h.trans (k.mono (Nat.le_trans hB h.size))

/-- The cells of a row, in order. -/
def flat (enc : α → List Value) (es : List α) : List Value := es.flatMap enc

theorem flat_len {enc : α → List Value} {k : Nat} (h : ∀ a, (enc a).length = k) (es : List α) : (flat enc es).length = es.length * k := by
  unfold flat
  induction es with
  | nil => simp
  | cons a r ih => rw [List.flatMap_cons, List.length_append, ih, h, List.length_cons, Nat.add_mul, Nat.one_mul, Nat.add_comm]

theorem flat_nil (enc : α → List Value) : flat enc [] = [] := rfl

theorem flat_append (enc : α → List Value) (a b : List α) : flat enc (a ++ b) = flat enc a ++ flat enc b := by unfold flat; simp

theorem flat_one (enc : α → List Value) (a : α) : flat enc [a] = enc a := by unfold flat; simp

theorem flat_at {enc : α → List Value} {k : Nat} (h : ∀ a, (enc a).length = k) (es : List α) (i j : Nat) (hi : i < es.length) (hj : j < k) : (flat enc es)[i * k + j]? = (enc es[i])[j]? := by
  induction es generalizing i with
  | nil => simp at hi
  | cons a r ih =>
    unfold flat
    rw [List.flatMap_cons]
    cases i with
    | zero =>
      rw [Nat.zero_mul, Nat.zero_add, List.getElem?_append_left (by rw [h]; exact hj)]
      rfl
    | succ m =>
      rw [List.getElem?_append_right (by rw [h, Nat.add_mul]; omega), h, show (m + 1) * k + j - k = m * k + j by rw [Nat.add_mul]; omega]
      exact ih m (by simpa using hi)

theorem flat_cell {enc : α → List Value} (hone : ∀ a, ∀ v ∈ enc a, v.oneCell' = true) (es : List α) : ∀ v ∈ flat enc es, v.oneCell' = true := by
  intro v hv
  unfold flat at hv
  obtain ⟨a, _, ha⟩ := List.mem_flatMap.1 hv
  exact hone a v ha

/-- A row that is read. -/
def FRow (enc : α → List Value) (k : Nat) (w : World) (v : Value) (es : List α) : Prop :=
  ∃ p c, v = .slice p es.length c ∧ es.length ≤ c ∧ (es ≠ [] → ∃ g o, p = some ⟨g, o, none⟩ ∧ g < w.heap.size ∧ ∀ i (hi : i < es.length), ∀ j, j < k → w.cell? ⟨g, o + i * k + j, none⟩ = (enc es[i])[j]?)

theorem FRow.on {enc : α → List Value} {k : Nat} {w w' : World} {v : Value} {es : List α} (h : FRow enc k w v es) (hb : Below w.heap.size w w') : FRow enc k w' v es := by
  obtain ⟨p, c, rfl, hc, hp⟩ := h
  refine ⟨p, c, rfl, hc, fun hne => ?_⟩
  obtain ⟨g, o, rfl, hg, hcell⟩ := hp hne
  exact ⟨g, o, rfl, Nat.lt_of_lt_of_le hg hb.size, fun i hi j hj => by rw [hb.cell (p := ⟨g, o + i * k + j, none⟩) hg]; exact hcell i hi j hj⟩

theorem row_of_own {enc : α → List Value} {k : Nat} (hk : ∀ a, (enc a).length = k) {w : World} {base : Nat} {t : TypeId} {v : Value} {es : List α} (h : w.ownsRow base t k v es.length (flat enc es)) : FRow enc k w v es := by
  rcases h.2 with ⟨hv, hz⟩ | ⟨g, cap, cur, hv, hb, hg, hnc, _⟩
  · exact ⟨none, 0, by rw [hv, hz], by omega, fun hn => absurd (List.eq_nil_of_length_eq_zero hz) hn⟩
  · refine ⟨some ⟨g, 0, none⟩, cap, hv, hnc, fun _ => ⟨g, 0, rfl, (Array.getElem?_eq_some_iff.1 hg).1, fun i hi j hj => ?_⟩⟩
    subst hv
    have h1 : i * k + j < es.length * k := by
      have h2 : i * k + k ≤ es.length * k := by rw [← Nat.succ_mul]; exact Nat.mul_le_mul_right k hi
      omega
    rw [Nat.zero_add, h.cellAt (i * k + j) h1, flat_at hk es i j hi hj]

theorem row_nil (enc : α → List Value) (k : Nat) (w : World) : FRow enc k w (.slice none 0 0) [] := ⟨none, 0, rfl, Nat.le_refl _, fun h => absurd rfl h⟩

/-- A row that came in, wherever it lies. -/
def FArg (enc : α → List Value) (k : Nat) (w : World) (v : Value) (es : List α) : Prop :=
  ∃ p c, v = .slice p es.length c ∧ ∀ i (hi : i < es.length), ∃ ad : Addr, p = some ad ∧ ad.block < w.heap.size ∧ ∀ j, j < k → w.cell? (ad.add (i * k + j)) = (enc es[i])[j]?

theorem FArg.on {enc : α → List Value} {k : Nat} {w w' : World} {v : Value} {es : List α} (h : FArg enc k w v es) (hb : Below w.heap.size w w') : FArg enc k w' v es := by
  obtain ⟨p, c, rfl, hp⟩ := h
  refine ⟨p, c, rfl, fun i hi => ?_⟩
  obtain ⟨ad, rfl, hl, hc⟩ := hp i hi
  exact ⟨ad, rfl, Nat.lt_of_lt_of_le hl hb.size, fun j hj => by rw [hb.cell (p := ad.add (i * k + j)) (by rw [add_block]; exact hl)]; exact hc j hj⟩

theorem arg_nil (enc : α → List Value) (k : Nat) (w : World) : FArg enc k w (.slice none 0 0) [] := ⟨none, 0, rfl, fun i hi => absurd hi (by simp)⟩

/-- Cells are written one behind the other. -/
def setMany (F : List Value) (p : Nat) : List Value → List Value
  | [] => F
  | c :: r => setMany (F.set p c) (p + 1) r

theorem setMany_len (F : List Value) (p : Nat) (cs : List Value) : (setMany F p cs).length = F.length := by
  induction cs generalizing F p with
  | nil => rfl
  | cons c r ih => unfold setMany; rw [ih, List.length_set]

theorem setMany_at (F : List Value) (p : Nat) (cs : List Value) (h : p + cs.length ≤ F.length) (j : Nat) : (setMany F p cs)[j]? = if p ≤ j ∧ j < p + cs.length then cs[j - p]? else F[j]? := by
  induction cs generalizing F p with
  | nil => unfold setMany; rw [if_neg (by simp)]
  | cons c r ih =>
    unfold setMany
    simp only [List.length_cons] at h ⊢
    rw [ih (F.set p c) (p + 1) (by rw [List.length_set]; omega)]
    by_cases h1 : p + 1 ≤ j ∧ j < p + 1 + r.length
    · rw [if_pos h1, if_pos (by omega), show j - p = (j - (p + 1)) + 1 by omega, List.getElem?_cons_succ]
    · rw [if_neg h1, List.getElem?_set]
      by_cases h2 : p = j
      · subst h2
        rw [if_pos rfl, if_pos (by omega), if_pos ⟨Nat.le_refl _, by omega⟩, Nat.sub_self]
        rfl
      · rw [if_neg h2, if_neg (by omega)]

theorem setMany_flat {enc : α → List Value} {k : Nat} (hk : ∀ a, (enc a).length = k) (es : List α) (i : Nat) (hi : i < es.length) (a : α) : setMany (flat enc es) (i * k) (enc a) = flat enc (es.set i a) := by
  have hlen : i * k + k ≤ es.length * k := by rw [← Nat.succ_mul]; exact Nat.mul_le_mul_right k hi
  apply List.ext_getElem?
  intro j
  rw [setMany_at _ _ _ (by rw [hk, flat_len hk]; exact hlen), hk]
  by_cases hj : j < es.length * k
  · rcases Nat.eq_zero_or_pos k with h0 | h0
    · subst h0; simp at hj
    · obtain ⟨q, r, hr, rfl⟩ : ∃ q r, r < k ∧ j = q * k + r := ⟨j / k, j % k, Nat.mod_lt _ h0, by rw [Nat.mul_comm]; exact (Nat.div_add_mod j k).symm⟩
      have hq : q < es.length := Nat.lt_of_mul_lt_mul_right (Nat.lt_of_le_of_lt (Nat.le_add_right _ _) hj)
      rw [flat_at hk (es.set i a) q r (by rw [List.length_set]; exact hq) hr]
      by_cases he : q = i
      · subst he
        rw [if_pos (by omega), show q * k + r - q * k = r by omega, List.getElem_set_self]
      · rw [flat_at hk es q r hq hr, List.getElem_set_ne (by omega), if_neg]
        intro hc
        rcases Nat.lt_or_ge q i with h | h
        · have : (q + 1) * k ≤ i * k := Nat.mul_le_mul_right k h
          rw [Nat.add_mul] at this; omega
        · have : (i + 1) * k ≤ q * k := Nat.mul_le_mul_right k (by omega)
          rw [Nat.add_mul] at this; omega
  · rw [if_neg (by omega), List.getElem?_eq_none (by rw [flat_len hk]; omega), List.getElem?_eq_none (by rw [flat_len hk, List.length_set]; omega)]

/-- A row of which the first i are by f. -/
def mix (f : Nat → α) (es : List α) (i : Nat) : List α := (List.range i).map f ++ es.drop i

theorem mix_zero (f : Nat → α) (es : List α) : mix f es 0 = es := by simp [mix]
theorem mix_len (f : Nat → α) (es : List α) (i : Nat) (h : i ≤ es.length) : (mix f es i).length = es.length := by
  unfold mix; rw [List.length_append, List.length_map, List.length_range, List.length_drop]; omega
theorem mix_all (f : Nat → α) (es : List α) (i : Nat) (h : es.length = i) : mix f es i = (List.range i).map f := by
  unfold mix; rw [List.drop_of_length_le (by omega), List.append_nil]
theorem mix_set (f : Nat → α) (es : List α) (i : Nat) (h : i < es.length) : (mix f es i).set i (f i) = mix f es (i + 1) := by
  apply List.ext_getElem?
  intro j
  unfold mix
  rw [List.getElem?_set]
  simp only [List.length_append, List.length_map, List.length_range, List.length_drop]
  by_cases hj : i = j
  · subst hj
    rw [if_pos rfl, if_pos (by omega), List.getElem?_append_left (by simp)]
    simp
  · rw [if_neg hj]
    by_cases hlt : j < i
    · rw [List.getElem?_append_left (by simpa using hlt), List.getElem?_append_left (by simp; omega)]
      simp [hlt, Nat.lt_succ_of_lt hlt]
    · rw [List.getElem?_append_right (by simpa using hlt), List.getElem?_append_right (by simp; omega), List.getElem?_drop, List.getElem?_drop]
      simp only [List.length_map, List.length_range]
      congr 1
      omega

/-- A copy of which the first i are there. -/
def fill (z : α) (es : List α) (i : Nat) : List α := es.take i ++ List.replicate (es.length - i) z

theorem fill_len (z : α) (es : List α) (i : Nat) (h : i ≤ es.length) : (fill z es i).length = es.length := by
  unfold fill; rw [List.length_append, List.length_take, List.length_replicate]; omega
theorem fill_zero (z : α) (es : List α) : fill z es 0 = List.replicate es.length z := by simp [fill]
theorem fill_all (z : α) (es : List α) : fill z es es.length = es := by simp [fill]
theorem fill_set (z : α) (es : List α) (i : Nat) (h : i < es.length) : (fill z es i).set i es[i] = fill z es (i + 1) := by
  apply List.ext_getElem?
  intro j
  unfold fill
  rw [List.getElem?_set]
  simp only [List.length_append, List.length_take, List.length_replicate]
  by_cases hj : i = j
  · subst hj
    rw [if_pos rfl, if_pos (by omega), List.getElem?_append_left (by rw [List.length_take]; omega), List.getElem?_take, if_pos (by omega), List.getElem?_eq_getElem h]
  · rw [if_neg hj]
    by_cases hlt : j < i
    · rw [List.getElem?_append_left (by rw [List.length_take]; omega), List.getElem?_append_left (by rw [List.length_take]; omega), List.getElem?_take, List.getElem?_take, if_pos hlt, if_pos (by omega)]
    · rw [List.getElem?_append_right (by rw [List.length_take]; omega), List.getElem?_append_right (by rw [List.length_take]; omega), List.length_take, List.length_take, List.getElem?_replicate, List.getElem?_replicate]
      by_cases hin : j < es.length
      · rw [if_pos (by omega), if_pos (by omega)]
      · rw [if_neg (by omega), if_neg (by omega)]

theorem flat_replicate {enc : α → List Value} (z : α) (n : Nat) : flat enc (List.replicate n z) = (List.replicate n (enc z)).flatten := by
  unfold flat
  induction n with
  | zero => rfl
  | succ n ih => rw [List.replicate_succ, List.flatMap_cons, ih, List.replicate_succ, List.flatten_cons]

theorem made_flat {enc : α → List Value} {k : Nat} (h0 : 0 < k) (hk : ∀ a, (enc a).length = k) (z : α) (n : Nat) : (madeCells (enc z).toArray (n * k)).toList = flat enc (List.replicate n z) := by
  apply List.ext_getElem?
  intro j
  unfold madeCells
  simp only [Array.toList_map, List.size_toArray, hk]
  by_cases hj : j < n * k
  · obtain ⟨q, r, hr, rfl⟩ : ∃ q r, r < k ∧ j = q * k + r := ⟨j / k, j % k, Nat.mod_lt _ h0, by rw [Nat.mul_comm]; exact (Nat.div_add_mod j k).symm⟩
    have hq : q < n := Nat.lt_of_mul_lt_mul_right (Nat.lt_of_le_of_lt (Nat.le_add_right _ _) hj)
    rw [flat_at hk _ q r (by rw [List.length_replicate]; exact hq) hr]
    simp [hj, List.getElem_replicate, Nat.add_mod, Nat.mod_eq_of_lt hr, hk, hr]
  · rw [List.getElem?_eq_none, List.getElem?_eq_none (by rw [flat_len hk, List.length_replicate]; omega)]
    simp; omega

theorem own_some {w : World} {base : Nat} {t : TypeId} {size g n cap : Nat} {xs : List Value} (h : w.ownsRow base t size (.slice (some ⟨g, 0, none⟩) n cap) n xs) (j : Nat) (hj : j < n * size) : ∃ u, w.cell? ⟨g, j, none⟩ = some u := by
  rw [h.cellAt j hj]
  exact ⟨_, List.getElem?_eq_getElem (by rw [h.1]; exact hj)⟩

/-- What is used of a size that is asked. -/
def used (sz : α → Nat) (es : List α) : Nat := (es.map sz).sum

theorem used_take (sz : α → Nat) (es : List α) (i : Nat) (h : i < es.length) : used sz (es.take (i + 1)) = used sz (es.take i) + sz es[i] := by
  unfold used
  rw [List.take_succ_eq_append_getElem h, List.map_append, List.sum_append]
  simp only [List.map_cons, List.map_nil, List.sum_cons, List.sum_nil, Nat.add_zero]

theorem used_mem {sz : α → Nat} {es : List α} {a : α} (h : a ∈ es) : sz a ≤ used sz es := by
  unfold used
  induction es with
  | nil => cases h
  | cons x r ih =>
    rw [List.map_cons, List.sum_cons]
    rcases List.mem_cons.1 h with rfl | h
    · omega
    · have := ih h; omega

theorem add_at (ad : Addr) (k j : Nat) : (⟨(ad.add k).block, (ad.add k).off + j, none⟩ : Addr) = if j = 0 ∧ k = 0 then ⟨ad.block, ad.off, none⟩ else ad.add (k + j) := by
  unfold Addr.add
  by_cases h : k = 0
  · subst h
    by_cases hj : j = 0
    · subst hj; simp
    · simp [hj]
  · simp [h, Nat.add_assoc]
end Go.Proofs.YtjaaplcgphlccaaGreatDoor
