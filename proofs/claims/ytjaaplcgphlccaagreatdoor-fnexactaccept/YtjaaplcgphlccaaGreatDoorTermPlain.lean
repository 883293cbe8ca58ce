/- Plain facts on texts of terms: the specification's reading by cutting at blanks between brackets, the program's reading sign by sign from the left, and that both find the same kind and parts; no condition. -/
import Derived.Below
namespace Go.Proofs.YtjaaplcgphlccaaGreatDoor

def isDig (c : UInt8) : Bool := decide (48 ≤ c.toNat ∧ c.toNat ≤ 57)
def isLow (c : UInt8) : Bool := decide (97 ≤ c.toNat ∧ c.toNat ≤ 122)
def nmB (c : UInt8) : Bool := isLow c || isDig c

/-- A name. -/
def nameB : List UInt8 → Bool
  | [] => false
  | c :: r => isLow c && (decide (r.length ≤ 11) && r.all nmB)

/-- A secret. -/
def secretB : List UInt8 → Bool
  | [] => false
  | c :: r => decide (c = 33) && nameB r

/-- The pieces between outermost blanks; nothing where the brackets do not close. -/
def cutGo : Nat → List UInt8 → List UInt8 → Option (List (List UInt8))
  | d, cur, [] => if d = 0 then some [cur] else none
  | d, cur, c :: r =>
    if c = 40 then cutGo (d + 1) (cur ++ [c]) r
    else if c = 41 then (if d = 0 then none else cutGo (d - 1) (cur ++ [c]) r)
    else if c = 32 ∧ d = 0 then (cutGo 0 [] r).map (cur :: ·)
    else cutGo d (cur ++ [c]) r

def wordOf : Nat → List UInt8
  | 3 => [112, 97, 105, 114]
  | 4 => [104, 97, 115, 104]
  | 5 => [115, 105, 103, 110]
  | 6 => [112, 117, 98]
  | 7 => [115, 101, 97, 108]
  | _ => []

def kindOfW (w : List UInt8) : Nat :=
  if w = wordOf 3 then 3 else if w = wordOf 4 then 4 else if w = wordOf 5 then 5 else if w = wordOf 6 then 6 else if w = wordOf 7 then 7 else 0

def leastOf : Nat → Nat
  | 4 => 1
  | 6 => 1
  | _ => 2
def mostOf : Nat → Nat
  | 4 => 8
  | 6 => 1
  | _ => 2
def firstOf (k : Nat) : Bool := decide (k = 5 ∨ k = 6)

/-- May a kind have these parts? -/
def shapeB (k : Nat) (ps : List (List UInt8)) : Bool :=
  decide (leastOf k ≤ ps.length ∧ ps.length ≤ mostOf k) && (!firstOf k || secretB (ps.headD []))

/-- What stands between the brackets. -/
def inner : List UInt8 → Option (List UInt8)
  | [] => none
  | c :: r => if c = 40 ∧ r.getLast? = some 41 then some r.dropLast else none

def brk (f : List UInt8 → Nat) (l : List UInt8) : Nat × List (List UInt8) :=
  match (inner l).bind (cutGo 0 []) with
  | some (w :: p :: ps) => if kindOfW w ≠ 0 ∧ shapeB (kindOfW w) (p :: ps) = true ∧ (p :: ps).all (fun x => f x != 0) = true then (kindOfW w, p :: ps) else (0, [])
  | _ => (0, [])

/-- The kind and the parts of a text that may have so many brackets more. -/
def kindS : Nat → List UInt8 → Nat × List (List UInt8)
  | 0, l => if nameB l then (1, []) else if secretB l then (2, []) else (0, [])
  | d + 1, l => if nameB l then (1, []) else if secretB l then (2, []) else brk (fun x => (kindS d x).1) l

/-- How many signs of a name stand here. -/
def run (l : List UInt8) : Nat := (l.takeWhile nmB).length

/-- The program's reading of a name. -/
def pName (l : List UInt8) : Option Nat := if nameB (l.takeWhile nmB) then some (run l) else none

def pLoop (f : List UInt8 → Option (Nat × List (List UInt8) × Nat)) : Nat → List (Nat × List UInt8) → Nat → List UInt8 → Option (List (Nat × List UInt8) × Nat)
  | 0, acc, off, l => if l.head? = some 32 then none else some (acc, off)
  | m + 1, acc, off, l =>
    if l.head? = some 32 then
      match f l.tail with
      | none => none
      | some (k, _, n) => pLoop f m (acc ++ [(k, l.tail.take n)]) (off + 1 + n) (l.tail.drop n)
    else some (acc, off)

def pBr (f : List UInt8 → Option (Nat × List (List UInt8) × Nat)) (l : List UInt8) : Option (Nat × List (List UInt8) × Nat) :=
  let w := l.tail.takeWhile nmB
  let k := kindOfW w
  if k = 0 then none
  else
    match pLoop f (mostOf k) [] (1 + w.length) (l.drop (1 + w.length)) with
    | none => none
    | some (acc, off) =>
      if (l.drop off).head? = some 41 ∧ leastOf k ≤ acc.length ∧ (firstOf k = true → (acc.map (·.1)).head? = some 2) then some (k, acc.map (·.2), off + 1) else none

/-- The program's reading of a term: its kind, its parts, how many signs it takes. -/
def pTerm : Nat → List UInt8 → Option (Nat × List (List UInt8) × Nat)
  | d, l =>
    if l.head? = some 40 then
      match d with
      | 0 => none
      | d + 1 => pBr (pTerm d) l
    else if l.head? = some 33 then (pName l.tail).map fun n => (2, [], n + 1)
    else (pName l).map fun n => (1, [], n)

/-! Names. -/

theorem nmB_low {c : UInt8} (h : isLow c = true) : nmB c = true := by simp [nmB, h]

theorem nameB_all {l : List UInt8} (h : nameB l = true) : l.all nmB = true := by
  cases l with
  | nil => rfl
  | cons c r =>
    simp only [nameB, Bool.and_eq_true] at h
    simp only [List.all_cons, Bool.and_eq_true]
    exact ⟨nmB_low h.1, h.2.2⟩

theorem takeWhile_stop (x rest : List UInt8) (hx : x.all nmB = true) (hr : ∀ c, rest.head? = some c → nmB c = false) : (x ++ rest).takeWhile nmB = x := by
  induction x with
  | nil =>
    cases rest with
    | nil => rfl
    | cons c r => simp [hr c rfl]
  | cons c r ih =>
    simp only [List.all_cons, Bool.and_eq_true] at hx
    simp [hx.1, ih hx.2]

theorem takeWhile_split (l : List UInt8) : l = l.takeWhile nmB ++ l.drop (run l) := by
  induction l with
  | nil => rfl
  | cons c r ih =>
    unfold run
    by_cases h : nmB c = true
    · simp only [List.takeWhile_cons, h, if_true, List.cons_append, List.length_cons, List.drop_succ_cons]
      exact congrArg (c :: ·) ih
    · simp [h]

theorem run_all (l : List UInt8) : (l.takeWhile nmB).all nmB = true := by
  induction l with
  | nil => rfl
  | cons c r ih =>
    by_cases h : nmB c = true
    · simp [h]
    · simp [h]

theorem run_stop (l : List UInt8) : ∀ c, (l.drop (run l)).head? = some c → nmB c = false := by
  induction l with
  | nil => intro c h; simp [run] at h
  | cons a r ih =>
    intro c h
    by_cases ha : nmB a = true
    · refine ih c ?_
      simpa [run, List.takeWhile_cons, ha] using h
    · have : c = a := by simpa [run, List.takeWhile_cons, ha, eq_comm] using h
      rw [this]
      simpa using ha

theorem take_run (l : List UInt8) : l.take (run l) = l.takeWhile nmB := by
  have h := takeWhile_split l
  have : l.take (run l) = (l.takeWhile nmB ++ l.drop (run l)).take (run l) := by rw [← h]
  rw [this, List.take_append_of_le_length (by unfold run; exact Nat.le_refl _), List.take_of_length_le (by unfold run; exact Nat.le_refl _)]

theorem run_le (l : List UInt8) : run l ≤ l.length := by
  have := congrArg List.length (takeWhile_split l)
  simp [run] at this ⊢
  omega

theorem pName_some {l : List UInt8} {n : Nat} : pName l = some n ↔ nameB (l.take n) = true ∧ n = run l := by
  unfold pName
  constructor
  · intro h
    split at h
    · rename_i hn
      have := Option.some.inj h
      subst this
      exact ⟨by rw [take_run]; exact hn, rfl⟩
    · cases h
  · rintro ⟨h, rfl⟩
    rw [take_run] at h
    rw [if_pos h]

theorem head_name {l : List UInt8} (h : nameB l = true) : ∃ c r, l = c :: r ∧ isLow c = true := by
  cases l with
  | nil => cases h
  | cons c r =>
    simp only [nameB, Bool.and_eq_true] at h
    exact ⟨c, r, rfl, h.1⟩

theorem low_not {c : UInt8} (h : isLow c = true) : c ≠ 40 ∧ c ≠ 33 ∧ c ≠ 41 ∧ c ≠ 32 := by
  simp only [isLow, decide_eq_true_eq] at h
  refine ⟨?_, ?_, ?_, ?_⟩ <;> · intro e; subst e; revert h; decide

theorem nm_not {c : UInt8} (h : nmB c = true) : c ≠ 40 ∧ c ≠ 41 ∧ c ≠ 32 := by
  simp only [nmB, isLow, isDig, Bool.or_eq_true, decide_eq_true_eq] at h
  refine ⟨?_, ?_, ?_⟩ <;> · intro e; subst e; revert h; decide

theorem secret_not_name {l : List UInt8} (h : secretB l = true) : nameB l = false := by
  cases l with
  | nil => rfl
  | cons c r =>
    simp only [secretB, Bool.and_eq_true, decide_eq_true_eq] at h
    have h1 := h.1
    subst h1
    simp [nameB, isLow]

/-! The cut goes through what is a term. -/

theorem cut_plain (x : List UInt8) (hx : x.all nmB = true) : ∀ d cur r, cutGo d cur (x ++ r) = cutGo d (cur ++ x) r := by
  induction x with
  | nil => intro d cur r; simp
  | cons c x ih =>
    intro d cur r
    simp only [List.all_cons, Bool.and_eq_true] at hx
    obtain ⟨h1, h2, h3⟩ := nm_not hx.1
    rw [List.cons_append, cutGo, if_neg h1, if_neg h2, if_neg (fun h => h3 h.1), ih hx.2]
    simp

/-- The pieces of a cut, put together again. -/
def glue : List (List UInt8) → List UInt8
  | [] => []
  | [x] => x
  | x :: y :: r => x ++ 32 :: glue (y :: r)

theorem glue_cons {x : List UInt8} {ps : List (List UInt8)} (h : ps ≠ []) : glue (x :: ps) = x ++ 32 :: glue ps := by
  cases ps with
  | nil => exact absurd rfl h
  | cons y r => rfl

theorem cutGo_glue (l : List UInt8) : ∀ d cur ps, cutGo d cur l = some ps → ps ≠ [] ∧ cur ++ l = glue ps := by
  induction l with
  | nil =>
    intro d cur ps h
    unfold cutGo at h
    split at h
    · have := Option.some.inj h
      subst this
      exact ⟨by simp, by simp [glue]⟩
    · cases h
  | cons c r ih =>
    intro d cur ps h
    unfold cutGo at h
    split at h
    · obtain ⟨h1, h2⟩ := ih _ _ _ h
      exact ⟨h1, by rw [← h2]; simp⟩
    · split at h
      · split at h
        · cases h
        · obtain ⟨h1, h2⟩ := ih _ _ _ h
          exact ⟨h1, by rw [← h2]; simp⟩
      · split at h
        · rename_i h32
          obtain ⟨qs, hq, rfl⟩ := Option.map_eq_some_iff.1 h
          obtain ⟨h1, h2⟩ := ih _ _ _ hq
          exact ⟨by simp, by rw [glue_cons h1, ← h2, h32.1]; simp⟩
        · obtain ⟨h1, h2⟩ := ih _ _ _ h
          exact ⟨h1, by rw [← h2]; simp⟩

/-- What the cut goes through at whatever depth. -/
def Pass (x : List UInt8) : Prop := ∀ d cur r, cutGo d cur (x ++ r) = cutGo d (cur ++ x) r

theorem pass_glue : ∀ (ps : List (List UInt8)), (∀ x ∈ ps, Pass x) → ∀ d cur r, cutGo (d + 1) cur (glue ps ++ r) = cutGo (d + 1) (cur ++ glue ps) r
  | [], _, d, cur, r => by simp [glue]
  | [x], h, d, cur, r => h x (by simp) (d + 1) cur r
  | x :: y :: q, h, d, cur, r => by
    have hx := h x (by simp)
    have ih := pass_glue (y :: q) (fun z hz => h z (by simp [hz])) d
    rw [show glue (x :: y :: q) = x ++ 32 :: glue (y :: q) from rfl, List.append_assoc, hx, List.cons_append, cutGo, if_neg (by decide), if_neg (by decide), if_neg (by rintro ⟨_, h⟩; cases h), ih]
    simp

theorem cut_glue : ∀ (ps : List (List UInt8)), ps ≠ [] → (∀ x ∈ ps, Pass x) → ∀ cur, cutGo 0 cur (glue ps) = some ((cur ++ ps.headD []) :: ps.tail)
  | [], h, _, _ => absurd rfl h
  | [x], _, h, cur => by
    have := h x (by simp) 0 cur []
    rw [List.append_nil] at this
    rw [show glue [x] = x from rfl, this]
    simp [cutGo]
  | x :: y :: q, _, h, cur => by
    have hx := h x (by simp)
    have ih := cut_glue (y :: q) (by simp) (fun z hz => h z (by simp [hz])) []
    rw [show glue (x :: y :: q) = x ++ 32 :: glue (y :: q) from rfl, hx, cutGo, if_neg (by decide), if_neg (by decide), if_pos ⟨rfl, rfl⟩, ih]
    simp

theorem kindOfW_ne {w : List UInt8} (h : kindOfW w ≠ 0) : w.all nmB = true ∧ 3 ≤ kindOfW w ∧ kindOfW w ≤ 7 ∧ w = wordOf (kindOfW w) := by
  unfold kindOfW at h ⊢
  split
  · rename_i e; subst e; decide
  · split
    · rename_i e; subst e; decide
    · split
      · rename_i e; subst e; decide
      · split
        · rename_i e; subst e; decide
        · split
          · rename_i e; subst e; decide
          · simp_all

theorem inner_some {l m : List UInt8} : inner l = some m ↔ l = 40 :: (m ++ [41]) := by
  cases l with
  | nil => simp [inner]
  | cons c r =>
    have e : inner (c :: r) = if c = 40 ∧ r.getLast? = some 41 then some r.dropLast else none := rfl
    rw [e]
    constructor
    · intro h
      by_cases hc : c = 40 ∧ r.getLast? = some 41
      · rw [if_pos hc] at h
        have := Option.some.inj h
        subst this
        obtain ⟨rfl, hl⟩ := hc
        rcases List.eq_nil_or_concat r with rfl | ⟨i, z, rfl⟩
        · simp at hl
        · have : z = 41 := by simpa using hl
          subst this
          simp
      · rw [if_neg hc] at h
        cases h
    · intro h
      obtain ⟨rfl, rfl⟩ := List.cons.inj h
      rw [if_pos ⟨rfl, by simp⟩]
      simp

/-- A text that is a term in brackets, taken apart. -/
theorem brk_some {f : List UInt8 → Nat} {l : List UInt8} {k : Nat} {ps : List (List UInt8)} (h : brk f l = (k, ps)) (hk : k ≠ 0) :
    ps ≠ [] ∧ l = 40 :: (glue (wordOf k :: ps) ++ [41]) ∧ 3 ≤ k ∧ k ≤ 7 ∧ kindOfW (wordOf k) = k ∧ shapeB k ps = true ∧ (∀ x ∈ ps, f x ≠ 0) ∧ cutGo 0 [] (glue (wordOf k :: ps)) = some (wordOf k :: ps) := by
  unfold brk at h
  split at h
  · rename_i w p q he
    split at h
    · rename_i hc
      obtain ⟨h1, h2⟩ := Prod.mk.inj h
      subst h1; subst h2
      obtain ⟨_, h3, h7, hw⟩ := kindOfW_ne hc.1
      obtain ⟨m, hm, hcut⟩ := Option.bind_eq_some_iff.1 he
      have hl := inner_some.1 hm
      have hg := (cutGo_glue m 0 [] _ hcut).2
      rw [List.nil_append] at hg
      subst hg
      rw [← hw]
      refine ⟨by simp, hl, h3, h7, rfl, hc.2.1, ?_, hcut⟩
      intro x hx
      have := List.all_eq_true.1 hc.2.2 x hx
      simpa using this
    · obtain ⟨h1, _⟩ := Prod.mk.inj h
      exact absurd h1.symm hk
  · obtain ⟨h1, _⟩ := Prod.mk.inj h
    exact absurd h1.symm hk

theorem kindOfW_word {k : Nat} (h3 : 3 ≤ k) (h7 : k ≤ 7) : kindOfW (wordOf k) = k := by
  match k, h3, h7 with
  | 3, _, _ => rfl
  | 4, _, _ => rfl
  | 5, _, _ => rfl
  | 6, _, _ => rfl
  | 7, _, _ => rfl

theorem word_all {k : Nat} (h3 : 3 ≤ k) (h7 : k ≤ 7) : (wordOf k).all nmB = true := by
  match k, h3, h7 with
  | 3, _, _ => decide
  | 4, _, _ => decide
  | 5, _, _ => decide
  | 6, _, _ => decide
  | 7, _, _ => decide

theorem pass_name {x : List UInt8} (h : x.all nmB = true) : Pass x := cut_plain x h

theorem pass_secret {x : List UInt8} (h : secretB x = true) : Pass x := by
  cases x with
  | nil => cases h
  | cons c r =>
    simp only [secretB, Bool.and_eq_true, decide_eq_true_eq] at h
    obtain ⟨rfl, hr⟩ := h
    intro d cur q
    rw [List.cons_append, cutGo, if_neg (by decide), if_neg (by decide), if_neg (by rintro ⟨h, _⟩; cases h), cut_plain r (nameB_all hr)]
    simp

theorem pass_brk {ps : List (List UInt8)} (h : ∀ x ∈ ps, Pass x) : Pass (40 :: (glue ps ++ [41])) := by
  intro d cur r
  rw [List.cons_append, cutGo, if_pos rfl, List.append_assoc, pass_glue ps h, List.singleton_append, cutGo, if_neg (by decide), if_pos rfl, if_neg (by omega)]
  simp

theorem pass_term : ∀ (d : Nat) (x : List UInt8), (kindS d x).1 ≠ 0 → Pass x
  | 0, x, h => by
    unfold kindS at h
    split at h
    · rename_i hn; exact pass_name (nameB_all hn)
    · split at h
      · rename_i hs; exact pass_secret hs
      · exact absurd rfl h
  | d + 1, x, h => by
    unfold kindS at h
    split at h
    · rename_i hn; exact pass_name (nameB_all hn)
    · split at h
      · rename_i hs; exact pass_secret hs
      · obtain ⟨_, hl, h3, h7, _, _, hall, _⟩ := brk_some (k := (brk (fun x => (kindS d x).1) x).1) (ps := (brk (fun x => (kindS d x).1) x).2) rfl h
        rw [hl]
        refine pass_brk fun y hy => ?_
        rcases List.mem_cons.1 hy with rfl | hy
        · exact pass_name (word_all h3 h7)
        · exact pass_term d y (hall y hy)

end Go.Proofs.YtjaaplcgphlccaaGreatDoor
