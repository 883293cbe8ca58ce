/- Laid together: NumPlain, NumOne, TextLit, MeasBoth, NonceBoth. -/
import Derived.Lib.ItoaNum
import Derived.Lib.ParseIntB
import Derived.Laws.Concat
import Derived.Test.YtjaaplcgphlccaaGreatDoorProg
import Derived.Test.YtjaaplcgphlccaaGreatDoorShelf
import Derived.WalkKit
import Derived.WalkSpells
import Derived.WalkLawsBesides
import Derived.Lib.SmallJoins
import Derived.Test.YtjaaplcgphlccaaGreatDoorMakeSpec
import Derived.Test.YtjaaplcgphlccaaGreatDoorInAny
import Derived.Test.YtjaaplcgphlccaaGreatDoorMakeImpl

namespace Go.Proofs.YtjaaplcgphlccaaGreatDoor.Num
open Go.Lib (decDigits)

/-- What digits spell behind a number. -/
def fold (acc : Nat) (l : List UInt8) : Nat := l.foldl (fun a c => a * 10 + (c.toNat - 48)) acc

theorem fold_nil (acc : Nat) : fold acc [] = acc := by unfold fold; rw [List.foldl_nil]
theorem fold_cons (acc : Nat) (c : UInt8) (l : List UInt8) : fold acc (c :: l) = fold (acc * 10 + (c.toNat - 48)) l := by
  unfold fold; rw [List.foldl_cons]
theorem fold_snoc (acc : Nat) (c : UInt8) (l : List UInt8) : fold acc (l ++ [c]) = fold acc l * 10 + (c.toNat - 48) := by
  simp [fold, List.foldl_append]

theorem le_fold (l : List UInt8) : ∀ acc, acc ≤ fold acc l := by
  induction l with
  | nil => intro acc; exact Nat.le_refl _
  | cons c l ih =>
    intro acc
    have := ih (acc * 10 + (c.toNat - 48))
    rw [fold_cons]
    omega

def Digs (l : List UInt8) : Prop := ∀ c ∈ l, 48 ≤ c.toNat ∧ c.toNat ≤ 57

theorem fold_lt_any (l : List UInt8) (h : Digs l) : ∀ acc, fold acc l < (acc + 1) * 10 ^ l.length := by
  induction l with
  | nil => intro acc; rw [fold_nil]; simp
  | cons c l ih =>
    intro acc
    have h1 := ih (fun x hx => h x (by simp [hx])) (acc * 10 + (c.toNat - 48))
    have h2 := h c (by simp)
    rw [fold_cons, List.length_cons, Nat.pow_succ]
    have h3 : (acc * 10 + (c.toNat - 48) + 1) * 10 ^ l.length ≤ (acc * 10 + 10) * 10 ^ l.length := Nat.mul_le_mul_right _ (by omega)
    have h4 : (acc * 10 + 10) * 10 ^ l.length = (acc + 1) * (10 ^ l.length * 10) := by
      rw [show acc * 10 + 10 = (acc + 1) * 10 from by omega, Nat.mul_assoc, Nat.mul_comm 10]
    omega

theorem fold_lt (l : List UInt8) (h : Digs l) : fold 0 l < 10 ^ l.length := by
  simpa using fold_lt_any l h 0

theorem toNat_dig (m : Nat) (h : m < 10) : (UInt8.ofNat (48 + m)).toNat = 48 + m := by
  rw [UInt8.toNat_ofNat_of_lt' (by show _ < 256; omega)]

theorem digits_spell (k : Nat) : fold 0 (decDigits k) = k ∧ Digs (decDigits k) ∧ 0 < (decDigits k).length := by
  induction k using Nat.strongRecOn with
  | ind k ih =>
    rw [decDigits]
    by_cases h : k < 10
    · rw [dif_pos h]
      refine ⟨?_, ?_, by simp⟩
      · rw [fold_cons, fold_nil, toNat_dig k h]; omega
      · intro c hc
        rw [List.mem_singleton.1 hc, toNat_dig k h]; omega
    · rw [dif_neg h]
      obtain ⟨h1, h2, _⟩ := ih (k / 10) (by omega)
      have hd : k % 10 < 10 := Nat.mod_lt _ (by omega)
      refine ⟨?_, ?_, by simp⟩
      · rw [fold_snoc, h1, toNat_dig _ hd]; omega
      · intro c hc
        rcases List.mem_append.1 hc with hc | hc
        · exact h2 c hc
        · rw [List.mem_singleton.1 hc, toNat_dig _ hd]; omega

theorem digits_len (k : Nat) : ∀ n, k < 10 ^ (n + 1) → (decDigits k).length ≤ n + 1 := by
  intro n
  induction n generalizing k with
  | zero => intro h; rw [decDigits, dif_pos (by omega)]; simp
  | succ n ih =>
    intro h
    rw [decDigits]
    by_cases h10 : k < 10
    · rw [dif_pos h10]; simp
    · rw [dif_neg h10]
      have := ih (k / 10) (by rw [Nat.pow_succ] at h; omega)
      simp
      omega

theorem digits_len10 (k : Nat) (h : k ≤ 1000000000) : (decDigits k).length ≤ 10 := digits_len k 9 (by omega)

theorem digits_inj {a b : Nat} (h : decDigits a = decDigits b) : a = b := by
  rw [← (digits_spell a).1, h, (digits_spell b).1]

/-- The name of a number. -/
def nameOf (k : Nat) : List UInt8 := 110 :: decDigits k

/-- A text that is the name of k, k being in reach, has that number, and every other text has -1. -/
def IsNum (l : List UInt8) (r : Int) : Prop :=
  (∃ k : Nat, k ≤ 1000000000 ∧ l = nameOf k ∧ r = k) ∨ (r = -1 ∧ ∀ k : Nat, k ≤ 1000000000 → l ≠ nameOf k)

theorem IsNum_one {l : List UInt8} {a b : Int} (ha : IsNum l a) (hb : IsNum l b) : a = b := by
  rcases ha with ⟨k, hk, hl, rfl⟩ | ⟨rfl, hn⟩
  · rcases hb with ⟨j, hj, hl', rfl⟩ | ⟨rfl, hn⟩
    · rw [hl] at hl'
      have := digits_inj (List.cons.inj hl').2
      omega
    · exact absurd hl (hn k hk)
  · rcases hb with ⟨j, hj, hl', rfl⟩ | ⟨rfl, _⟩
    · exact absurd hl' (hn j hj)
    · rfl

theorem parseM (l : List UInt8) (h : Digs l) : ∀ acc, fold acc l ≤ 1000000000 → Lib.parseUintM (2 ^ 64 - 1) acc l = .ok (fold acc l) := by
  induction l with
  | nil => intro acc _; rfl
  | cons c l ih =>
    intro acc hf
    rw [fold_cons] at hf ⊢
    have hc := h c (by simp)
    have hle := le_fold l (acc * 10 + (c.toNat - 48))
    rw [Lib.parseUintM, if_pos hc, if_neg (by omega), if_neg (by omega)]
    exact ih (fun x hx => h x (by simp [hx])) _ hf

theorem parse_digits (k : Nat) (h : k ≤ 1000000000) : Lib.parseIntB 64 (decDigits k) = .ok (k : Int) := by
  obtain ⟨h1, h2, h3⟩ := digits_spell k
  have hm := parseM (decDigits k) h2 0 (by omega)
  rw [h1] at hm
  generalize decDigits k = l at *
  match l, h3 with
  | c :: r, _ =>
    have hc := h2 c (by simp)
    have hb : Lib.parseUintB 64 (c :: r) = .ok k := by
      unfold Lib.parseUintB
      rw [if_neg (by simp)]
      exact hm
    unfold Lib.parseIntB
    simp only []
    rw [if_neg (by omega), hb]
    simp only []
    rw [if_neg (by omega), if_neg (by omega), if_neg (by omega)]

/-- Two texts behind one another. -/
theorem cat_bytes (a b : List UInt8) : (⟨a.toArray⟩ : ByteArray) ++ ⟨b.toArray⟩ = ⟨(a ++ b).toArray⟩ := by
  apply ByteArray.ext
  simp

theorem name_mk (k : Nat) : (⟨#[110]⟩ : ByteArray) ++ ⟨(decDigits k).toArray⟩ = ⟨(nameOf k).toArray⟩ := by
  simpa [nameOf] using cat_bytes [110] (decDigits k)

end Go.Proofs.YtjaaplcgphlccaaGreatDoor.Num

namespace Go.Proofs.YtjaaplcgphlccaaGreatDoor.Num
open Go.RowKit Go.Sort
open Go.Lib (hid)

/-- The digits of a number, none for 0. -/
def dd (m : Nat) : List UInt8 := if m = 0 then [] else Lib.decDigits m

theorem dd_step (m : Nat) (h : 0 < m) : dd m = dd (m / 10) ++ [UInt8.ofNat (48 + m % 10)] := by
  unfold dd
  rw [if_neg (by omega), Lib.decDigits]
  by_cases h10 : m < 10
  · rw [dif_pos h10, if_pos (by omega), Nat.mod_eq_of_lt h10]; rfl
  · rw [dif_neg h10, if_neg (by omega)]

theorem dd_pos (n : Nat) (h : ¬ n = 0) : dd n = Lib.decDigits n := by unfold dd; rw [if_neg h]

theorem dd_len (n : Nat) : (dd n).length ≤ n := by
  induction n using Nat.strongRecOn with
  | ind n ih =>
    by_cases h : n = 0
    · subst h; simp [dd]
    · have := ih (n / 10) (by omega)
      rw [dd_step n (by omega)]
      simp
      omega

/-- One round more: the last digit of m goes ahead of what is gathered. -/
theorem dd_round (n m : Nat) (s : List UInt8) (h : 0 < m) (hs : dd m ++ s = dd n) : dd (m / 10) ++ (UInt8.ofNat (48 + m % 10) :: s) = dd n := by
  rw [← hs, dd_step m h, List.append_assoc]; rfl

set_option maxHeartbeats 400000 in
theorem l1Dec_calls (n : Nat) (h1 : n ≤ 1000000000) (w : World) :
    Calls Tryz.prog 68 #[.int .i64 n] w fun e w' => e = .returned (.string ⟨(Lib.decDigits n).toArray⟩) ∧ Below w.heap.size w w' := by
  by_cases h0 : n = 0
  · subst h0
    go_enter Tryz.func68, Tryz.ntmps68
    go_wp2
    go_ret
    exact ⟨by simp [Lib.decDigits], Below.refl _ _⟩
  · have hb : ((n : Int) == 0) = false := by rw [beq_eq_false_iff_ne]; omega
    go_enter Tryz.func68, Tryz.ntmps68
    go_wp2
    go_loopw [0, 3] (fun a o wr => ∃ m : Nat, ∃ s : List UInt8, m ≤ n ∧ a = .int .i64 m ∧ o = .string ⟨s.toArray⟩ ∧ dd m ++ s = dd n ∧ Below w.heap.size w wr) (fun a _ _ => (RowKit.intOf a).toNat)
    case atStart => exact ⟨n, [], Nat.le_refl _, rfl, rfl, by simp, Below.refl _ _⟩
    case round =>
      obtain ⟨m, s, hm, rfl, rfl, hs, hnx⟩ := hrel
      have hlen : s.length ≤ 1000000000 := by
        have := dd_len n
        have := congrArg List.length hs
        simp at this
        omega
      by_cases hlt : 0 < m
      · have HS := hid (dd_round n m s hlt hs)
        clear hs
        have hd : m % 10 < 10 := Nat.mod_lt _ (by omega)
        have hcv : ((UInt8.ofNat (48 + m % 10)).toNat : Int) = 48 + (m : Int) % 10 := by
          rw [UInt8.toNat_ofNat_of_lt' (by show _ < 256; omega)]; omega
        have hback := run_convert_bytes_back (P := Tryz.prog) (wr.alloc (.cells #[.int .u8 (48 + (m : Int) % 10)] 5)) 33 9 5 ⟨wr.heap.size, 0, none⟩ 1 [UInt8.ofNat (48 + m % 10)] Tryz.underlying33 Tryz.underlying5 Tryz.underlying9 (fun j hj => by
          have : j = 0 := by simpa using hj
          subst this
          show _ = some (Value.int .u8 ((UInt8.ofNat (48 + m % 10)).toNat : Int))
          rw [hcv]
          simp [Addr.add])
        clear hcv hd
        simp only [List.length_cons, List.length_nil, Nat.zero_add] at hback
        go_wp2
        go_roundw
        case rel =>
          refine ⟨m / 10, UInt8.ofNat (48 + m % 10) :: s, by omega, by go_num, ?_, HS.out, (hnx.alloc hnx.size _)⟩
          simpa using cat_bytes [UInt8.ofNat (48 + m % 10)] s
        case measure => simp [RowKit.intOf]; omega
      · have hm0 : m = 0 := by omega
        subst hm0
        have hs' : s = Lib.decDigits n := by rw [← dd_pos n h0, ← hs]; simp [dd]
        clear hs
        have HS := hid hs'
        clear hs'
        go_wp2
        go_ret
        exact ⟨by rw [HS.out]; rfl, hnx⟩


theorem grow_below {w : World} (k : Nat) (os : Array Obj) : Below w.heap.size w (Sort.grow (w.drewN k) os) := by
  refine ⟨rfl, rfl, rfl, by simp [Sort.grow, World.drewN], fun i hi => ?_⟩
  show (w.heap ++ os)[i]? = w.heap[i]?
  rw [Array.getElem?_append_left hi]

theorem implNumber_yes (k : Nat) (hk : k ≤ 1000000000) (w : World) (htab : Lib.TabIs Tryz.prog w "internal/strconv.uint64pow10" .u64 Lib.pow10Tab) :
    Calls Tryz.prog 84 #[.int .i64 k] w fun e w' => e = .returned (.tuple #[.string ⟨(nameOf k).toArray⟩, .bool true]) ∧ Below w.heap.size w w' := by
  have HN := hid (name_mk k)
  have hl : (Lib.decDigits k).length ≤ 10 := digits_len10 k hk
  have hi : Lib.itoa (k : Int) = Lib.decDigits k := by unfold Lib.itoa; rw [if_neg (by omega)]; rfl
  have HT := hid htab
  clear htab
  go_enter Tryz.func84, Tryz.ntmps84
  go_wp2_with (first | (go_at_call 93; refine (Tryz.strconv_FormatInt_10 _ (by omega) (by omega) _ HT.out).mono ?_; rintro e w1 ⟨rfl, j, os, rfl⟩; rw [hi]))
  go_ret2
  exact ⟨by rw [← HN.out]; rfl, grow_below _ _⟩

theorem implNumber_no (n : Int) (h : ¬ (0 ≤ n ∧ n ≤ 1000000000)) (w : World) :
    Calls Tryz.prog 84 #[.int .i64 n] w fun e w' => e = .returned (.tuple #[.string ⟨#[]⟩, .bool false]) ∧ w' = w := by
  by_cases h0 : n < 0
  · go_enter Tryz.func84, Tryz.ntmps84
    go_wp2
    go_ret2
    exact ⟨rfl, rfl⟩
  · have h1 : 1000000000 < n := by omega
    go_enter Tryz.func84, Tryz.ntmps84
    go_wp2
    go_ret2
    exact ⟨rfl, rfl⟩

theorem l1In_calls (n : Int) (w : World) :
    Calls Tryz.prog 67 #[.int .i64 n, .int .i64 0, .int .i64 1000000000] w fun e w' => e = .returned (.bool (decide (0 ≤ n ∧ n ≤ 1000000000))) ∧ w' = w := by
  by_cases h0 : 0 ≤ n
  · by_cases h1 : n ≤ 1000000000
    · go_enter Tryz.func67, Tryz.ntmps67
      go_wp2
      go_ret
      exact ⟨by simp [h0, h1], rfl⟩
    · go_enter Tryz.func67, Tryz.ntmps67
      go_wp2
      go_ret
      exact ⟨by simp [h1], rfl⟩
  · go_enter Tryz.func67, Tryz.ntmps67
    go_wp2
    go_ret
    exact ⟨by simp; omega, rfl⟩

theorem specNumber_yes (k : Nat) (hk : k ≤ 1000000000) (w : World) :
    Calls Tryz.prog 47 #[.int .i64 k] w fun e w' => e = .returned (.tuple #[.string ⟨(nameOf k).toArray⟩, .bool true]) ∧ Below w.heap.size w w' := by
  have hd : decide (0 ≤ (k : Int) ∧ (k : Int) ≤ 1000000000) = true := decide_eq_true ⟨by omega, by omega⟩
  have HN := hid (name_mk k)
  have hl : (Lib.decDigits k).length ≤ 10 := digits_len10 k hk
  go_enter Tryz.func47, Tryz.ntmps47
  go_wp2_with (first | (go_at_call 67; refine (l1In_calls _ _).mono ?_; rintro e w' ⟨rfl, rfl⟩; rw [hd]) | (go_at_call 68; refine (l1Dec_calls _ hk _).mono ?_; rintro e w1 ⟨rfl, hb1⟩))
  go_ret2
  exact ⟨by rw [← HN.out]; rfl, hb1⟩

theorem specNumber_no (n : Int) (h : ¬ (0 ≤ n ∧ n ≤ 1000000000)) (w : World) :
    Calls Tryz.prog 47 #[.int .i64 n] w fun e w' => e = .returned (.tuple #[.string ⟨#[]⟩, .bool false]) ∧ w' = w := by
  have hd : decide (0 ≤ n ∧ n ≤ 1000000000) = false := decide_eq_false h
  go_enter Tryz.func47, Tryz.ntmps47
  go_wp2_with (first | (go_at_call 67; refine (l1In_calls _ _).mono ?_; rintro e w' ⟨rfl, rfl⟩; rw [hd]))
  go_ret2
  exact ⟨rfl, rfl⟩

theorem tab_stays {w w1 : World} (h : Below w.heap.size w w1) (htab : Lib.TabIs Tryz.prog w "internal/strconv.uint64pow10" .u64 Lib.pow10Tab) : Lib.TabIs Tryz.prog w1 "internal/strconv.uint64pow10" .u64 Lib.pow10Tab :=
  Go.Joins.tab_stays (g := 1) (by kernel_rfl) htab h (Nat.le_refl _)
end Go.Proofs.YtjaaplcgphlccaaGreatDoor.Num

namespace Go.Proofs.YtjaaplcgphlccaaGreatDoor
open Go.RowKit
open Go.Lib (hid)

/-- A row of texts that a literal lays. -/
theorem lit_texts (w : World) (A : Array Value) (T : TypeId) (ps : List (List UInt8)) (hA : ∀ j (hj : j < ps.length), A[j]? = some (.string ⟨ps[j].toArray⟩)) : TextsAt (w.alloc (.cells A T)) (.slice (some ⟨w.heap.size, 0, none⟩) ps.length ps.length) ps :=
  ⟨_, _, rfl, fun _ => ⟨w.heap.size, rfl, by simp, fun j hj => by rw [cell_of_row _ _ j _ _ _ (heap_alloc_new w (.cells A T)), hA j hj]⟩⟩

theorem back_bytes (b : ByteArray) : (⟨b.data.toList.toArray⟩ : ByteArray) = b := by
  apply ByteArray.ext
  simp

theorem strs_at (l : List (List UInt8)) (i : Nat) (hi : i < l.length) : (strs l)[i]? = some (.string ⟨l[i].toArray⟩) := by simp [strs, List.getElem?_map, List.getElem?_eq_getElem hi]
end Go.Proofs.YtjaaplcgphlccaaGreatDoor

namespace Go.Proofs.YtjaaplcgphlccaaGreatDoor
open Go.RowKit
open Go.Lib (hid)

theorem kind_one {d : Nat} {x : List UInt8} : (kindS d x).1 = 1 ↔ nameB x = true := by
  have hb : ∀ f, (brk f x).1 ≠ 1 := by
    intro f h
    have := brk_some (f := f) (l := x) (k := (brk f x).1) (ps := (brk f x).2) rfl (by omega)
    omega
  constructor
  · intro h
    cases d with
    | zero =>
      unfold kindS at h
      split at h
      · assumption
      · split at h <;> cases h
    | succ d =>
      unfold kindS at h
      split at h
      · assumption
      · split at h
        · cases h
        · exact absurd h (hb _)
  · intro h
    cases d with
    | zero => simp [kindS, h]
    | succ d => simp [kindS, h]

theorem name_size {x : ByteArray} (h : nameB x.data.toList = true) : x.size ≤ 12 := by
  have hsz : x.data.toList.length = x.size := by simp
  generalize x.data.toList = L at *
  unfold nameB at h
  cases L with
  | nil => cases h
  | cons c r => simp at h hsz; omega

theorem name_node (x : ByteArray) : nameB x.data.toList = decide ((nodeOf x).1 = 1) := by
  rw [Bool.eq_iff_iff, decide_eq_true_iff]
  unfold nodeOf
  by_cases h4 : x.size ≤ 4000
  · rw [if_pos h4]; exact kind_one.symm
  · rw [if_neg h4]
    refine ⟨fun h => ?_, fun h => by cases h⟩
    have := name_size h
    omega

/-- Is it a right image. -/
def imgB (name : List UInt8) (ver : Int) : Bool := nameB name && decide (0 ≤ ver ∧ ver ≤ 1000000000)

/-- What is measured. -/
def measOf (l : Nat) (name : List UInt8) (v : Nat) : List (List UInt8) := [Num.nameOf l, name, Num.nameOf v]

/-- Is there a measure, and its text. -/
def measOut (layer : Int) (name : List UInt8) (ver : Int) : Bool × List UInt8 :=
  if 0 ≤ layer ∧ layer ≤ 15 ∧ imgB name ver = true then (madeB 4 (measOf layer.toNat name ver.toNat), tmWith 4 (measOf layer.toNat name ver.toNat)) else (false, [])

theorem img_num {name : List UInt8} {ver : Int} (h : imgB name ver = true) : ∃ k : Nat, ver = k ∧ k ≤ 1000000000 := by
  unfold imgB at h
  rw [Bool.and_eq_true, decide_eq_true_iff] at h
  obtain ⟨k, hk⟩ := Int.eq_ofNat_of_zero_le h.2.1
  exact ⟨k, hk, by omega⟩

end Go.Proofs.YtjaaplcgphlccaaGreatDoor

namespace Go.Proofs.YtjaaplcgphlccaaGreatDoor
open Go.RowKit
open Go.Lib (hid)

theorem secret_nd (x : ByteArray) : secretB x.data.toList = decide ((nodeOf x).1 = 2) := by
  rw [Bool.eq_iff_iff, decide_eq_true_iff]
  unfold nodeOf
  by_cases h4 : x.size ≤ 4000
  · rw [if_pos h4]; exact kind_two.symm
  · rw [if_neg h4]
    refine ⟨fun h => ?_, fun h => by cases h⟩
    have hsz : x.data.toList.length = x.size := by simp
    generalize x.data.toList = L at *
    cases L with
    | nil => cases h
    | cons c r =>
      unfold secretB at h
      rw [Bool.and_eq_true] at h
      have h2 := h.2
      cases r with
      | nil => cases h2
      | cons c2 r2 =>
        unfold nameB at h2
        simp at h2 hsz
        omega

/-- What a nonce is made of. -/
def nonceOf (key : List UInt8) (k : Nat) : List (List UInt8) := [key, Num.nameOf k]

/-- Is there a nonce, and its text. -/
def nonceOut (key : List UInt8) (n : Int) : Bool × List UInt8 :=
  if (0 ≤ n ∧ n ≤ 1000000000) ∧ secretB key = true then (madeB 4 (nonceOf key n.toNat), tmWith 4 (nonceOf key n.toNat)) else (false, [])


set_option maxRecDepth 20000 in
set_option maxHeartbeats 2000000 in
theorem nonce_spec (key : ByteArray) (n : Int) (w : World) :
    Calls Tryz.prog 59 #[.string key, .int .i64 n] w (MadeOut w (nonceOut key.data.toList n).1 (nonceOut key.data.toList n).2) := by
  by_cases h : 0 ≤ n ∧ n ≤ 1000000000
  · obtain ⟨k, rfl⟩ := Int.eq_ofNat_of_zero_le h.1
    have hk : k ≤ 1000000000 := by omega
    have HR := hid h
    clear h
    have CN := hid (fun (W : World) => Num.specNumber_yes k hk W)
    obtain ⟨nm, hnm⟩ : ∃ nm : ByteArray, (⟨(Num.nameOf k).toArray⟩ : ByteArray) = nm := ⟨_, rfl⟩
    rw [hnm] at CN
    cases hs : secretB key.data.toList with
    | false =>
      have HO : Hid (nonceOut key.data.toList k = (false, [])) := hid (by unfold nonceOut; rw [hs]; simp)
      rw [HO.out]
      have HS := hid hs
      clear hs hnm
      go_enter Tryz.func59, Tryz.ntmps59
      go_wp2_with (go_at_call 47; refine (CN.out _).mono ?_; rintro e w1 ⟨rfl, hb1⟩; refine Hid.out ?_)
      refine hid ?_
      have HB1 := hid hb1
      clear hb1
      go_wp2_with (go_at_call 72; refine (ssecret_calls key _).mono ?_; rintro e w5 ⟨rfl, e5⟩; rw [e5, HS.out]; clear e5 w5; refine Hid.out ?_)
      refine hid ?_
      go_wp2
      go_ret2
      exact ⟨rfl, HB1.out⟩
    | true =>
      have HO : Hid (nonceOut key.data.toList k = (madeB 4 (nonceOf key.data.toList k), tmWith 4 (nonceOf key.data.toList k))) := hid (by unfold nonceOut; rw [hs, if_pos ⟨⟨by omega, by omega⟩, rfl⟩, Int.toNat_natCast])
      rw [HO.out]
      dsimp only
      have M1 := hid (fun (W : World) => (make_spec 4 (nonceOf key.data.toList k) _ _ (lit_texts W #[.string key, .string nm] 9 (nonceOf key.data.toList k) (fun j hj => by
        match j, hj with
        | 0, _ => exact congrArg (fun b => some (Value.string b)) (back_bytes key).symm
        | 1, _ => rw [← hnm]; rfl))))
      unfold MadeOut at M1 ⊢
      simp only [show Int.toNat 4 = 4 from rfl] at M1
      have HS := hid hs
      clear hs hnm
      generalize madeB 4 (nonceOf key.data.toList k) = b at *
      generalize tmWith 4 (nonceOf key.data.toList k) = t at *
      obtain ⟨y, hy⟩ : ∃ y : ByteArray, (if b = true then bytesOf t else ⟨#[]⟩) = y := ⟨_, rfl⟩
      have M2 : Hid (∀ (W : World), Calls Tryz.prog 49 #[.int .i64 4, .slice (some ⟨W.heap.size, 0, none⟩) 2 2] (W.alloc (.cells #[.string key, .string nm] 9)) fun e w' => e = .returned (.tuple #[.string y, .bool b]) ∧ Below W.heap.size W w') := hid (fun W => (M1.out W).mono fun e w' h => by
        rw [hy] at h
        exact ⟨h.1, ((Below.refl _ _).alloc (Nat.le_refl _) _).trans (h.2.mono (by simp))⟩)
      rw [hy]
      clear hy M1
      go_enter Tryz.func59, Tryz.ntmps59
      go_wp2_with (go_at_call 47; refine (CN.out _).mono ?_; rintro e w1 ⟨rfl, hb1⟩; refine Hid.out ?_)
      refine hid ?_
      have HB1 := hid hb1
      clear hb1
      go_wp2_with (go_at_call 72; refine (ssecret_calls key _).mono ?_; rintro e w5 ⟨rfl, e5⟩; rw [e5, HS.out]; clear e5 w5; refine Hid.out ?_)
      refine hid ?_
      go_wp2_with (go_at_call 49; refine (M2.out _).mono ?_; rintro e w6 ⟨rfl, hb6⟩; refine Hid.out ?_)
      refine hid ?_
      have HB6 := hid (HB1.out.trans (hb6.mono HB1.out.size))
      clear hb6
      go_wp2
      go_ret2
      exact ⟨rfl, HB6.out⟩
  · have HO : Hid (nonceOut key.data.toList n = (false, [])) := hid (by unfold nonceOut; rw [if_neg (fun hh => h hh.1)])
    rw [HO.out]
    go_enter Tryz.func59, Tryz.ntmps59
    go_wp2_with (go_at_call 47; refine (Num.specNumber_no _ h _).mono ?_; rintro e w1 ⟨rfl, rfl⟩)
    all_goals
      go_ret2
      exact ⟨rfl, Below.refl _ _⟩


end Go.Proofs.YtjaaplcgphlccaaGreatDoor
