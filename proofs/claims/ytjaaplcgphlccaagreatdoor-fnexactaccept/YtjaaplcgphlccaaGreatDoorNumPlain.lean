/- Plain facts on numbers and the names that stand for them: the digits of a number spell it, no two numbers have one name, and what the library's parse answers at the digits of a number; no condition but that the number is at most 1000000000 where a theorem says so. -/
import Derived.Lib.ItoaNum
import Derived.Lib.ParseIntB
import Derived.Laws.Concat
namespace Go.Proofs.YtjaaplcgphlccaaGreatDoor.Num
open Go.Lib (decDigits)

/-- What digits spell behind a number. -/
def fold (acc : Nat) (l : List UInt8) : Nat := l.foldl (fun a c => a * 10 + (c.toNat - 48)) acc

theorem fold_nil (acc : Nat) : fold acc [] = acc := by unfold fold; rw [List.foldl_nil]
theorem fold_cons (acc : Nat) (c : UInt8) (l : List UInt8) : fold acc (c :: l) = fold (acc * 10 + (c.toNat - 48)) l := by
  unfold fold; rw [List.foldl_cons]
theorem fold_snoc (acc : Nat) (c : UInt8) (l : List UInt8) : fold acc (l ++ [c]) = fold acc l * 10 + (c.toNat - 48) := by
  simp [fold, List.foldl_append]

theorem le_fold (l : List UInt8) : ∀ acc, acc ≤ fold acc l := by
  induction l with
  | nil => intro acc; exact Nat.le_refl _
  | cons c l ih =>
    intro acc
    have := ih (acc * 10 + (c.toNat - 48))
    rw [fold_cons]
    omega

def Digs (l : List UInt8) : Prop := ∀ c ∈ l, 48 ≤ c.toNat ∧ c.toNat ≤ 57

theorem fold_lt_any (l : List UInt8) (h : Digs l) : ∀ acc, fold acc l < (acc + 1) * 10 ^ l.length := by
  induction l with
  | nil => intro acc; rw [fold_nil]; simp
  | cons c l ih =>
    intro acc
    have h1 := ih (fun x hx => h x (by simp [hx])) (acc * 10 + (c.toNat - 48))
    have h2 := h c (by simp)
    rw [fold_cons, List.length_cons, Nat.pow_succ]
    have h3 : (acc * 10 + (c.toNat - 48) + 1) * 10 ^ l.length ≤ (acc * 10 + 10) * 10 ^ l.length := Nat.mul_le_mul_right _ (by omega)
    have h4 : (acc * 10 + 10) * 10 ^ l.length = (acc + 1) * (10 ^ l.length * 10) := by
      rw [show acc * 10 + 10 = (acc + 1) * 10 from by omega, Nat.mul_assoc, Nat.mul_comm 10]
    omega

theorem fold_lt (l : List UInt8) (h : Digs l) : fold 0 l < 10 ^ l.length := by
  simpa using fold_lt_any l h 0

theorem toNat_dig (m : Nat) (h : m < 10) : (UInt8.ofNat (48 + m)).toNat = 48 + m := by
  rw [UInt8.toNat_ofNat_of_lt' (by show _ < 256; omega)]

theorem digits_spell (k : Nat) : fold 0 (decDigits k) = k ∧ Digs (decDigits k) ∧ 0 < (decDigits k).length := by
  induction k using Nat.strongRecOn with
  | ind k ih =>
    rw [decDigits]
    by_cases h : k < 10
    · rw [dif_pos h]
      refine ⟨?_, ?_, by simp⟩
      · rw [fold_cons, fold_nil, toNat_dig k h]; omega
      · intro c hc
        rw [List.mem_singleton.1 hc, toNat_dig k h]; omega
    · rw [dif_neg h]
      obtain ⟨h1, h2, _⟩ := ih (k / 10) (by omega)
      have hd : k % 10 < 10 := Nat.mod_lt _ (by omega)
      refine ⟨?_, ?_, by simp⟩
      · rw [fold_snoc, h1, toNat_dig _ hd]; omega
      · intro c hc
        rcases List.mem_append.1 hc with hc | hc
        · exact h2 c hc
        · rw [List.mem_singleton.1 hc, toNat_dig _ hd]; omega

theorem digits_len (k : Nat) : ∀ n, k < 10 ^ (n + 1) → (decDigits k).length ≤ n + 1 := by
  intro n
  induction n generalizing k with
  | zero => intro h; rw [decDigits, dif_pos (by omega)]; simp
  | succ n ih =>
    intro h
    rw [decDigits]
    by_cases h10 : k < 10
    · rw [dif_pos h10]; simp
    · rw [dif_neg h10]
      have := ih (k / 10) (by rw [Nat.pow_succ] at h; omega)
      simp
      omega

theorem digits_len10 (k : Nat) (h : k ≤ 1000000000) : (decDigits k).length ≤ 10 := digits_len k 9 (by omega)

theorem digits_inj {a b : Nat} (h : decDigits a = decDigits b) : a = b := by
  rw [← (digits_spell a).1, h, (digits_spell b).1]

/-- The name of a number. -/
def nameOf (k : Nat) : List UInt8 := 110 :: decDigits k

/-- A text that is the name of k, k being in reach, has that number, and every other text has -1. -/
def IsNum (l : List UInt8) (r : Int) : Prop :=
  (∃ k : Nat, k ≤ 1000000000 ∧ l = nameOf k ∧ r = k) ∨ (r = -1 ∧ ∀ k : Nat, k ≤ 1000000000 → l ≠ nameOf k)

theorem IsNum_one {l : List UInt8} {a b : Int} (ha : IsNum l a) (hb : IsNum l b) : a = b := by
  rcases ha with ⟨k, hk, hl, rfl⟩ | ⟨rfl, hn⟩
  · rcases hb with ⟨j, hj, hl', rfl⟩ | ⟨rfl, hn⟩
    · rw [hl] at hl'
      have := digits_inj (List.cons.inj hl').2
      omega
    · exact absurd hl (hn k hk)
  · rcases hb with ⟨j, hj, hl', rfl⟩ | ⟨rfl, _⟩
    · exact absurd hl' (hn j hj)
    · rfl

theorem parseM (l : List UInt8) (h : Digs l) : ∀ acc, fold acc l ≤ 1000000000 → Lib.parseUintM (2 ^ 64 - 1) acc l = .ok (fold acc l) := by
  induction l with
  | nil => intro acc _; rfl
  | cons c l ih =>
    intro acc hf
    rw [fold_cons] at hf ⊢
    have hc := h c (by simp)
    have hle := le_fold l (acc * 10 + (c.toNat - 48))
    rw [Lib.parseUintM, if_pos hc, if_neg (by omega), if_neg (by omega)]
    exact ih (fun x hx => h x (by simp [hx])) _ hf

theorem parse_digits (k : Nat) (h : k ≤ 1000000000) : Lib.parseIntB 64 (decDigits k) = .ok (k : Int) := by
  obtain ⟨h1, h2, h3⟩ := digits_spell k
  have hm := parseM (decDigits k) h2 0 (by omega)
  rw [h1] at hm
  generalize decDigits k = l at *
  match l, h3 with
  | c :: r, _ =>
    have hc := h2 c (by simp)
    have hb : Lib.parseUintB 64 (c :: r) = .ok k := by
      unfold Lib.parseUintB
      rw [if_neg (by simp)]
      exact hm
    unfold Lib.parseIntB
    simp only []
    rw [if_neg (by omega), hb]
    simp only []
    rw [if_neg (by omega), if_neg (by omega), if_neg (by omega)]

/-- Two texts behind one another. -/
theorem cat_bytes (a b : List UInt8) : (⟨a.toArray⟩ : ByteArray) ++ ⟨b.toArray⟩ = ⟨(a ++ b).toArray⟩ := by
  apply ByteArray.ext
  simp

theorem name_mk (k : Nat) : (⟨#[110]⟩ : ByteArray) ++ ⟨(decDigits k).toArray⟩ = ⟨(nameOf k).toArray⟩ := by
  simpa [nameOf] using cat_bytes [110] (decDigits k)

end Go.Proofs.YtjaaplcgphlccaaGreatDoor.Num
