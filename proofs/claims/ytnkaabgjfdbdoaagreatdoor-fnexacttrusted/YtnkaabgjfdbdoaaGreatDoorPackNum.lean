/- Laid together: NumPlain, NumOne, TextLit, MeasBoth. -/
import Derived.Lib.ItoaNum
import Derived.Lib.ParseIntB
import Derived.Laws.Concat
import Derived.Test.YtnkaabgjfdbdoaaGreatDoorProg
import Derived.Test.YtnkaabgjfdbdoaaGreatDoorShelf
import Derived.WalkKit
import Derived.WalkSpells
import Derived.WalkLawsBesides
import Derived.Lib.SmallJoins
import Derived.Test.YtnkaabgjfdbdoaaGreatDoorPackMake
import Derived.Test.YtnkaabgjfdbdoaaGreatDoorPackMask

namespace Go.Proofs.YtnkaabgjfdbdoaaGreatDoor.Num
open Go.Lib (decDigits)

/-- What digits spell behind a number. -/
def fold (acc : Nat) (l : List UInt8) : Nat := l.foldl (fun a c => a * 10 + (c.toNat - 48)) acc

theorem fold_nil (acc : Nat) : fold acc [] = acc := by unfold fold; rw [List.foldl_nil]
theorem fold_cons (acc : Nat) (c : UInt8) (l : List UInt8) : fold acc (c :: l) = fold (acc * 10 + (c.toNat - 48)) l := by
  unfold fold; rw [List.foldl_cons]
theorem fold_snoc (acc : Nat) (c : UInt8) (l : List UInt8) : fold acc (l ++ [c]) = fold acc l * 10 + (c.toNat - 48) := by
  simp [fold, List.foldl_append]

theorem le_fold (l : List UInt8) : ∀ acc, acc ≤ fold acc l := by
  induction l with
  | nil => intro acc; exact Nat.le_refl _
  | cons c l ih =>
    intro acc
    have := ih (acc * 10 + (c.toNat - 48))
    rw [fold_cons]
    omega

def Digs (l : List UInt8) : Prop := ∀ c ∈ l, 48 ≤ c.toNat ∧ c.toNat ≤ 57

theorem fold_lt_any (l : List UInt8) (h : Digs l) : ∀ acc, fold acc l < (acc + 1) * 10 ^ l.length := by
  induction l with
  | nil => intro acc; rw [fold_nil]; simp
  | cons c l ih =>
    intro acc
    have h1 := ih (fun x hx => h x (by simp [hx])) (acc * 10 + (c.toNat - 48))
    have h2 := h c (by simp)
    rw [fold_cons, List.length_cons, Nat.pow_succ]
    have h3 : (acc * 10 + (c.toNat - 48) + 1) * 10 ^ l.length ≤ (acc * 10 + 10) * 10 ^ l.length := Nat.mul_le_mul_right _ (by omega)
    have h4 : (acc * 10 + 10) * 10 ^ l.length = (acc + 1) * (10 ^ l.length * 10) := by
      rw [show acc * 10 + 10 = (acc + 1) * 10 from by omega, Nat.mul_assoc, Nat.mul_comm 10]
    omega

theorem fold_lt (l : List UInt8) (h : Digs l) : fold 0 l < 10 ^ l.length := by
  simpa using fold_lt_any l h 0

theorem toNat_dig (m : Nat) (h : m < 10) : (UInt8.ofNat (48 + m)).toNat = 48 + m := by
  rw [UInt8.toNat_ofNat_of_lt' (by show _ < 256; omega)]

theorem digits_spell (k : Nat) : fold 0 (decDigits k) = k ∧ Digs (decDigits k) ∧ 0 < (decDigits k).length := by
  induction k using Nat.strongRecOn with
  | ind k ih =>
    rw [decDigits]
    by_cases h : k < 10
    · rw [dif_pos h]
      refine ⟨?_, ?_, by simp⟩
      · rw [fold_cons, fold_nil, toNat_dig k h]; omega
      · intro c hc
        rw [List.mem_singleton.1 hc, toNat_dig k h]; omega
    · rw [dif_neg h]
      obtain ⟨h1, h2, _⟩ := ih (k / 10) (by omega)
      have hd : k % 10 < 10 := Nat.mod_lt _ (by omega)
      refine ⟨?_, ?_, by simp⟩
      · rw [fold_snoc, h1, toNat_dig _ hd]; omega
      · intro c hc
        rcases List.mem_append.1 hc with hc | hc
        · exact h2 c hc
        · rw [List.mem_singleton.1 hc, toNat_dig _ hd]; omega

theorem digits_len (k : Nat) : ∀ n, k < 10 ^ (n + 1) → (decDigits k).length ≤ n + 1 := by
  intro n
  induction n generalizing k with
  | zero => intro h; rw [decDigits, dif_pos (by omega)]; simp
  | succ n ih =>
    intro h
    rw [decDigits]
    by_cases h10 : k < 10
    · rw [dif_pos h10]; simp
    · rw [dif_neg h10]
      have := ih (k / 10) (by rw [Nat.pow_succ] at h; omega)
      simp
      omega

theorem digits_len10 (k : Nat) (h : k ≤ 1000000000) : (decDigits k).length ≤ 10 := digits_len k 9 (by omega)

theorem digits_inj {a b : Nat} (h : decDigits a = decDigits b) : a = b := by
  rw [← (digits_spell a).1, h, (digits_spell b).1]

/-- The name of a number. -/
def nameOf (k : Nat) : List UInt8 := 110 :: decDigits k

/-- A text that is the name of k, k being in reach, has that number, and every other text has -1. -/
def IsNum (l : List UInt8) (r : Int) : Prop :=
  (∃ k : Nat, k ≤ 1000000000 ∧ l = nameOf k ∧ r = k) ∨ (r = -1 ∧ ∀ k : Nat, k ≤ 1000000000 → l ≠ nameOf k)

theorem IsNum_one {l : List UInt8} {a b : Int} (ha : IsNum l a) (hb : IsNum l b) : a = b := by
  rcases ha with ⟨k, hk, hl, rfl⟩ | ⟨rfl, hn⟩
  · rcases hb with ⟨j, hj, hl', rfl⟩ | ⟨rfl, hn⟩
    · rw [hl] at hl'
      have := digits_inj (List.cons.inj hl').2
      omega
    · exact absurd hl (hn k hk)
  · rcases hb with ⟨j, hj, hl', rfl⟩ | ⟨rfl, _⟩
    · exact absurd hl' (hn j hj)
    · rfl

theorem parseM (l : List UInt8) (h : Digs l) : ∀ acc, fold acc l ≤ 1000000000 → Lib.parseUintM (2 ^ 64 - 1) acc l = .ok (fold acc l) := by
  induction l with
  | nil => intro acc _; rfl
  | cons c l ih =>
    intro acc hf
    rw [fold_cons] at hf ⊢
    have hc := h c (by simp)
    have hle := le_fold l (acc * 10 + (c.toNat - 48))
    rw [Lib.parseUintM, if_pos hc, if_neg (by omega), if_neg (by omega)]
    exact ih (fun x hx => h x (by simp [hx])) _ hf

theorem parse_digits (k : Nat) (h : k ≤ 1000000000) : Lib.parseIntB 64 (decDigits k) = .ok (k : Int) := by
  obtain ⟨h1, h2, h3⟩ := digits_spell k
  have hm := parseM (decDigits k) h2 0 (by omega)
  rw [h1] at hm
  generalize decDigits k = l at *
  match l, h3 with
  | c :: r, _ =>
    have hc := h2 c (by simp)
    have hb : Lib.parseUintB 64 (c :: r) = .ok k := by
      unfold Lib.parseUintB
      rw [if_neg (by simp)]
      exact hm
    unfold Lib.parseIntB
    simp only []
    rw [if_neg (by omega), hb]
    simp only []
    rw [if_neg (by omega), if_neg (by omega), if_neg (by omega)]

/-- Two texts behind one another. -/
theorem cat_bytes (a b : List UInt8) : (⟨a.toArray⟩ : ByteArray) ++ ⟨b.toArray⟩ = ⟨(a ++ b).toArray⟩ := by
  apply ByteArray.ext
  simp

theorem name_mk (k : Nat) : (⟨#[110]⟩ : ByteArray) ++ ⟨(decDigits k).toArray⟩ = ⟨(nameOf k).toArray⟩ := by
  simpa [nameOf] using cat_bytes [110] (decDigits k)

end Go.Proofs.YtnkaabgjfdbdoaaGreatDoor.Num

namespace Go.Proofs.YtnkaabgjfdbdoaaGreatDoor.Num
open Go.RowKit Go.Sort
open Go.Lib (hid)

/-- The digits of a number, none for 0. -/
def dd (m : Nat) : List UInt8 := if m = 0 then [] else Lib.decDigits m

theorem dd_step (m : Nat) (h : 0 < m) : dd m = dd (m / 10) ++ [UInt8.ofNat (48 + m % 10)] := by
  unfold dd
  rw [if_neg (by omega), Lib.decDigits]
  by_cases h10 : m < 10
  · rw [dif_pos h10, if_pos (by omega), Nat.mod_eq_of_lt h10]; rfl
  · rw [dif_neg h10, if_neg (by omega)]

theorem dd_pos (n : Nat) (h : ¬ n = 0) : dd n = Lib.decDigits n := by unfold dd; rw [if_neg h]

theorem dd_len (n : Nat) : (dd n).length ≤ n := by
  induction n using Nat.strongRecOn with
  | ind n ih =>
    by_cases h : n = 0
    · subst h; simp [dd]
    · have := ih (n / 10) (by omega)
      rw [dd_step n (by omega)]
      simp
      omega

/-- One round more: the last digit of m goes ahead of what is gathered. -/
theorem dd_round (n m : Nat) (s : List UInt8) (h : 0 < m) (hs : dd m ++ s = dd n) : dd (m / 10) ++ (UInt8.ofNat (48 + m % 10) :: s) = dd n := by
  rw [← hs, dd_step m h, List.append_assoc]; rfl

set_option maxHeartbeats 400000 in
theorem l1Dec_calls (n : Nat) (h1 : n ≤ 1000000000) (w : World) :
    Calls Tryz.prog 167 #[.int .i64 n] w fun e w' => e = .returned (.string ⟨(Lib.decDigits n).toArray⟩) ∧ Below w.heap.size w w' := by
  by_cases h0 : n = 0
  · subst h0
    go_enter Tryz.func167, Tryz.ntmps167
    go_wp2
    go_ret
    exact ⟨by simp [Lib.decDigits], Below.refl _ _⟩
  · have hb : ((n : Int) == 0) = false := by rw [beq_eq_false_iff_ne]; omega
    go_enter Tryz.func167, Tryz.ntmps167
    go_wp2
    go_loopw [0, 3] (fun a o wr => ∃ m : Nat, ∃ s : List UInt8, m ≤ n ∧ a = .int .i64 m ∧ o = .string ⟨s.toArray⟩ ∧ dd m ++ s = dd n ∧ Below w.heap.size w wr) (fun a _ _ => (RowKit.intOf a).toNat)
    case atStart => exact ⟨n, [], Nat.le_refl _, rfl, rfl, by simp, Below.refl _ _⟩
    case round =>
      obtain ⟨m, s, hm, rfl, rfl, hs, hnx⟩ := hrel
      have hlen : s.length ≤ 1000000000 := by
        have := dd_len n
        have := congrArg List.length hs
        simp at this
        omega
      by_cases hlt : 0 < m
      · have HS := hid (dd_round n m s hlt hs)
        clear hs
        have hd : m % 10 < 10 := Nat.mod_lt _ (by omega)
        have hcv : ((UInt8.ofNat (48 + m % 10)).toNat : Int) = 48 + (m : Int) % 10 := by
          rw [UInt8.toNat_ofNat_of_lt' (by show _ < 256; omega)]; omega
        have hback := run_convert_bytes_back (P := Tryz.prog) (wr.alloc (.cells #[.int .u8 (48 + (m : Int) % 10)] 5)) 216 9 5 ⟨wr.heap.size, 0, none⟩ 1 [UInt8.ofNat (48 + m % 10)] Tryz.underlying216 Tryz.underlying5 Tryz.underlying9 (fun j hj => by
          have : j = 0 := by simpa using hj
          subst this
          show _ = some (Value.int .u8 ((UInt8.ofNat (48 + m % 10)).toNat : Int))
          rw [hcv]
          simp [Addr.add])
        clear hcv hd
        simp only [List.length_cons, List.length_nil, Nat.zero_add] at hback
        go_wp2
        go_roundw
        case rel =>
          refine ⟨m / 10, UInt8.ofNat (48 + m % 10) :: s, by omega, by go_num, ?_, HS.out, (hnx.alloc hnx.size _)⟩
          simpa using cat_bytes [UInt8.ofNat (48 + m % 10)] s
        case measure => simp [RowKit.intOf]; omega
      · have hm0 : m = 0 := by omega
        subst hm0
        have hs' : s = Lib.decDigits n := by rw [← dd_pos n h0, ← hs]; simp [dd]
        clear hs
        have HS := hid hs'
        clear hs'
        go_wp2
        go_ret
        exact ⟨by rw [HS.out]; rfl, hnx⟩


theorem grow_below {w : World} (k : Nat) (os : Array Obj) : Below w.heap.size w (Sort.grow (w.drewN k) os) := by
  refine ⟨rfl, rfl, rfl, by simp [Sort.grow, World.drewN], fun i hi => ?_⟩
  show (w.heap ++ os)[i]? = w.heap[i]?
  rw [Array.getElem?_append_left hi]

theorem implNumber_yes (k : Nat) (hk : k ≤ 1000000000) (w : World) (htab : Lib.TabIs Tryz.prog w "internal/strconv.uint64pow10" .u64 Lib.pow10Tab) :
    Calls Tryz.prog 152 #[.int .i64 k] w fun e w' => e = .returned (.tuple #[.string ⟨(nameOf k).toArray⟩, .bool true]) ∧ Below w.heap.size w w' := by
  have HN := hid (name_mk k)
  have hl : (Lib.decDigits k).length ≤ 10 := digits_len10 k hk
  have hi : Lib.itoa (k : Int) = Lib.decDigits k := by unfold Lib.itoa; rw [if_neg (by omega)]; rfl
  have HT := hid htab
  clear htab
  go_enter Tryz.func152, Tryz.ntmps152
  go_wp2_with (first | (go_at_call 180; refine (Tryz.strconv_FormatInt_10 _ (by omega) (by omega) _ HT.out).mono ?_; rintro e w1 ⟨rfl, j, os, rfl⟩; rw [hi]))
  go_ret2
  exact ⟨by rw [← HN.out]; rfl, grow_below _ _⟩

theorem implNumber_no (n : Int) (h : ¬ (0 ≤ n ∧ n ≤ 1000000000)) (w : World) :
    Calls Tryz.prog 152 #[.int .i64 n] w fun e w' => e = .returned (.tuple #[.string ⟨#[]⟩, .bool false]) ∧ w' = w := by
  by_cases h0 : n < 0
  · go_enter Tryz.func152, Tryz.ntmps152
    go_wp2
    go_ret2
    exact ⟨rfl, rfl⟩
  · have h1 : 1000000000 < n := by omega
    go_enter Tryz.func152, Tryz.ntmps152
    go_wp2
    go_ret2
    exact ⟨rfl, rfl⟩

theorem l1In_calls (n : Int) (w : World) :
    Calls Tryz.prog 77 #[.int .i64 n, .int .i64 0, .int .i64 1000000000] w fun e w' => e = .returned (.bool (decide (0 ≤ n ∧ n ≤ 1000000000))) ∧ w' = w := by
  by_cases h0 : 0 ≤ n
  · by_cases h1 : n ≤ 1000000000
    · go_enter Tryz.func77, Tryz.ntmps77
      go_wp2
      go_ret
      exact ⟨by simp [h0, h1], rfl⟩
    · go_enter Tryz.func77, Tryz.ntmps77
      go_wp2
      go_ret
      exact ⟨by simp [h1], rfl⟩
  · go_enter Tryz.func77, Tryz.ntmps77
    go_wp2
    go_ret
    exact ⟨by simp; omega, rfl⟩

theorem specNumber_yes (k : Nat) (hk : k ≤ 1000000000) (w : World) :
    Calls Tryz.prog 132 #[.int .i64 k] w fun e w' => e = .returned (.tuple #[.string ⟨(nameOf k).toArray⟩, .bool true]) ∧ Below w.heap.size w w' := by
  have hd : decide (0 ≤ (k : Int) ∧ (k : Int) ≤ 1000000000) = true := decide_eq_true ⟨by omega, by omega⟩
  have HN := hid (name_mk k)
  have hl : (Lib.decDigits k).length ≤ 10 := digits_len10 k hk
  go_enter Tryz.func132, Tryz.ntmps132
  go_wp2_with (first | (go_at_call 77; refine (l1In_calls _ _).mono ?_; rintro e w' ⟨rfl, rfl⟩; rw [hd]) | (go_at_call 167; refine (l1Dec_calls _ hk _).mono ?_; rintro e w1 ⟨rfl, hb1⟩))
  go_ret2
  exact ⟨by rw [← HN.out]; rfl, hb1⟩

theorem specNumber_no (n : Int) (h : ¬ (0 ≤ n ∧ n ≤ 1000000000)) (w : World) :
    Calls Tryz.prog 132 #[.int .i64 n] w fun e w' => e = .returned (.tuple #[.string ⟨#[]⟩, .bool false]) ∧ w' = w := by
  have hd : decide (0 ≤ n ∧ n ≤ 1000000000) = false := decide_eq_false h
  go_enter Tryz.func132, Tryz.ntmps132
  go_wp2_with (first | (go_at_call 77; refine (l1In_calls _ _).mono ?_; rintro e w' ⟨rfl, rfl⟩; rw [hd]))
  go_ret2
  exact ⟨rfl, rfl⟩

theorem tab_stays {w w1 : World} (h : Below w.heap.size w w1) (htab : Lib.TabIs Tryz.prog w "internal/strconv.uint64pow10" .u64 Lib.pow10Tab) : Lib.TabIs Tryz.prog w1 "internal/strconv.uint64pow10" .u64 Lib.pow10Tab :=
  Go.Joins.tab_stays (g := 1) (by kernel_rfl) htab h (Nat.le_refl _)
end Go.Proofs.YtnkaabgjfdbdoaaGreatDoor.Num

namespace Go.Proofs.YtnkaabgjfdbdoaaGreatDoor
open Go.RowKit
open Go.Lib (hid)

/-- A row of texts that a literal lays. -/
theorem lit_texts (w : World) (A : Array Value) (T : TypeId) (ps : List (List UInt8)) (hA : ∀ j (hj : j < ps.length), A[j]? = some (.string ⟨ps[j].toArray⟩)) : TextsAt (w.alloc (.cells A T)) (.slice (some ⟨w.heap.size, 0, none⟩) ps.length ps.length) ps :=
  ⟨_, _, rfl, fun _ => ⟨w.heap.size, rfl, by simp, fun j hj => by rw [cell_of_row _ _ j _ _ _ (heap_alloc_new w (.cells A T)), hA j hj]⟩⟩

theorem back_bytes (b : ByteArray) : (⟨b.data.toList.toArray⟩ : ByteArray) = b := by
  apply ByteArray.ext
  simp

theorem strs_at (l : List (List UInt8)) (i : Nat) (hi : i < l.length) : (strs l)[i]? = some (.string ⟨l[i].toArray⟩) := by simp [strs, List.getElem?_map, List.getElem?_eq_getElem hi]
end Go.Proofs.YtnkaabgjfdbdoaaGreatDoor

namespace Go.Proofs.YtnkaabgjfdbdoaaGreatDoor
open Go.RowKit
open Go.Lib (hid)

theorem kind_one {d : Nat} {x : List UInt8} : (kindS d x).1 = 1 ↔ nameB x = true := by
  have hb : ∀ f, (brk f x).1 ≠ 1 := by
    intro f h
    have := brk_some (f := f) (l := x) (k := (brk f x).1) (ps := (brk f x).2) rfl (by omega)
    omega
  constructor
  · intro h
    cases d with
    | zero =>
      unfold kindS at h
      split at h
      · assumption
      · split at h <;> cases h
    | succ d =>
      unfold kindS at h
      split at h
      · assumption
      · split at h
        · cases h
        · exact absurd h (hb _)
  · intro h
    cases d with
    | zero => simp [kindS, h]
    | succ d => simp [kindS, h]

theorem name_size {x : ByteArray} (h : nameB x.data.toList = true) : x.size ≤ 12 := by
  have hsz : x.data.toList.length = x.size := by simp
  generalize x.data.toList = L at *
  unfold nameB at h
  cases L with
  | nil => cases h
  | cons c r => simp at h hsz; omega

theorem name_node (x : ByteArray) : nameB x.data.toList = decide ((nodeOf x).1 = 1) := by
  rw [Bool.eq_iff_iff, decide_eq_true_iff]
  unfold nodeOf
  by_cases h4 : x.size ≤ 4000
  · rw [if_pos h4]; exact kind_one.symm
  · rw [if_neg h4]
    refine ⟨fun h => ?_, fun h => by cases h⟩
    have := name_size h
    omega

/-- Is it a right image. -/
def imgB (name : List UInt8) (ver : Int) : Bool := nameB name && decide (0 ≤ ver ∧ ver ≤ 1000000000)

theorem image_spec (name : ByteArray) (ver : Int) (w : World) :
    Calls Tryz.prog 34 #[.agg #[.string name, .int .i64 ver]] w fun e w' => e = .returned (.bool (imgB name.data.toList ver)) ∧ Below w.heap.size w w' := by
  have HI : Hid (imgB name.data.toList ver = (nameB name.data.toList && decide (0 ≤ ver ∧ ver ≤ 1000000000))) := hid rfl
  have CN := hid (fun W => sname_calls name W)
  have CI := hid (fun W => in_any ver 0 1000000000 W)
  generalize imgB name.data.toList ver = r at *
  generalize decide (0 ≤ ver ∧ ver ≤ 1000000000) = c at *
  generalize nameB name.data.toList = b at *
  cases b with
  | false =>
    go_enter Tryz.func34, Tryz.ntmps34
    go_wp2_with (go_at_call 31; refine (CN.out _).mono ?_; rintro e w1 ⟨rfl, e1⟩; rw [e1]; clear e1 w1)
    go_ret
    exact ⟨by rw [HI.out]; rfl, (Below.refl _ _).alloc (Nat.le_refl _) _⟩
  | true =>
    go_enter Tryz.func34, Tryz.ntmps34
    go_wp2_with (first | (go_at_call 31; refine (CN.out _).mono ?_; rintro e w1 ⟨rfl, e1⟩; rw [e1]; clear e1 w1) | (go_at_call 77; refine (CI.out _).mono ?_; rintro e w1 ⟨rfl, e1⟩; rw [e1]; clear e1 w1))
    go_ret
    exact ⟨by rw [HI.out]; rfl, (Below.refl _ _).alloc (Nat.le_refl _) _⟩

set_option maxRecDepth 20000 in
theorem image_impl (name : ByteArray) (ver : Int) (w : World) (hT : Tab w) (hG : 0 < w.heap.size) (hP : Lib.TabIs Tryz.prog w "internal/strconv.uint64pow10" .u64 Lib.pow10Tab) :
    Calls Tryz.prog 102 #[.agg #[.string name, .int .i64 ver]] w fun e w' => e = .returned (.bool (imgB name.data.toList ver)) ∧ Below w.heap.size w w' := by
  have HTAB := hid hT
  have HI : Hid (imgB name.data.toList ver = (nameB name.data.toList && decide (0 ≤ ver ∧ ver ≤ 1000000000))) := hid rfl
  obtain ⟨W0, hW0⟩ : ∃ W0, W0 = w.alloc (.cells #[.string name, .int .i64 ver] 66) := ⟨_, rfl⟩
  have hb0 : Below w.heap.size w W0 := by rw [hW0]; exact (Below.refl _ _).alloc (Nat.le_refl _) _
  have HB0 := hid hb0
  have HP0 := hid (Num.tab_stays hb0 hP)
  have hz0 : w.heap.size < W0.heap.size := by rw [hW0]; simp
  have HC0 : Hid (W0.heap[w.heap.size]? = some (.cells #[.string name, .int .i64 ver] 66)) := hid (by rw [hW0]; exact heap_alloc_new _ _)
  have HW0 := hid hW0
  have CK := hid (fun W (hb : Below w.heap.size w W) => kind_impl name W (tab_on hT hG hb) (Nat.lt_of_lt_of_le hG hb.size))
  have HNN := hid (name_node name)
  clear hT hP hW0 hb0
  generalize imgB name.data.toList ver = r at *
  by_cases hv : 0 ≤ ver ∧ ver ≤ 1000000000
  · obtain ⟨k, rfl⟩ := Int.eq_ofNat_of_zero_le hv.1
    have hk : k ≤ 1000000000 := by omega
    have HD := hid (decide_eq_true hv)
    clear hv
    generalize decide (0 ≤ (k : Int) ∧ (k : Int) ≤ 1000000000) = c at *
    generalize (nodeOf name).1 = kk at *
    go_enter Tryz.func102, Tryz.ntmps102
    go_wp2_with (go_at_call 152; rw [← HW0.out]; refine (Num.implNumber_yes k hk _ HP0.out).mono ?_; rintro e w1 ⟨rfl, hb1⟩; refine Hid.out ?_)
    refine hid ?_
    have HB1 := hid (HB0.out.trans (hb1.mono HB0.out.size))
    have HC1 := hid ((hb1.block _ hz0).trans HC0.out)
    have k0 := (cell_of_row _ _ 0 _ _ _ HC1.out).trans rfl
    have k1 := (cell_of_row _ _ 1 _ _ _ HC1.out).trans rfl
    clear hb1
    go_wp2_with (go_at_call 40; refine (CK.out _ HB1.out).mono ?_; rintro e w2 ⟨rfl, hb2⟩; refine Hid.out ?_)
    refine hid ?_
    have HB2 := hid (HB1.out.trans (hb2.mono HB1.out.size))
    clear hb2
    go_wp2
    go_ret
    refine ⟨?_, HB2.out⟩
    show Ending.returned (.bool ((kk : Int) == 1)) = Ending.returned (.bool r)
    rw [HI.out, HD.out, HNN.out, Bool.and_true]
    congr 2
    rw [Bool.eq_iff_iff, decide_eq_true_iff]
    simp
    omega
  · have HD := hid (decide_eq_false hv)
    generalize decide (0 ≤ ver ∧ ver ≤ 1000000000) = c at *
    go_enter Tryz.func102, Tryz.ntmps102
    go_wp2_with (go_at_call 152; rw [← HW0.out]; refine (Num.implNumber_no _ hv _).mono ?_; rintro e w1 ⟨rfl, e1⟩; rw [e1]; clear e1 w1)
    all_goals
      go_ret
      refine ⟨?_, HB0.out⟩
      show Ending.returned (.bool false) = Ending.returned (.bool r)
      rw [HI.out, HD.out, Bool.and_false]

/-- What is measured. -/
def measOf (l : Nat) (name : List UInt8) (v : Nat) : List (List UInt8) := [Num.nameOf l, name, Num.nameOf v]

/-- Is there a measure, and its text. -/
def measOut (layer : Int) (name : List UInt8) (ver : Int) : Bool × List UInt8 :=
  if 0 ≤ layer ∧ layer ≤ 15 ∧ imgB name ver = true then (madeB 4 (measOf layer.toNat name ver.toNat), tmWith 4 (measOf layer.toNat name ver.toNat)) else (false, [])

theorem img_num {name : List UInt8} {ver : Int} (h : imgB name ver = true) : ∃ k : Nat, ver = k ∧ k ≤ 1000000000 := by
  unfold imgB at h
  rw [Bool.and_eq_true, decide_eq_true_iff] at h
  obtain ⟨k, hk⟩ := Int.eq_ofNat_of_zero_le h.2.1
  exact ⟨k, hk, by omega⟩

set_option maxRecDepth 20000 in
set_option maxHeartbeats 2000000 in
theorem meas_spec (layer : Int) (name : ByteArray) (ver : Int) (w : World) :
    Calls Tryz.prog 74 #[.int .i64 layer, .agg #[.string name, .int .i64 ver]] w (MadeOut w (measOut layer name.data.toList ver).1 (measOut layer name.data.toList ver).2) := by
  obtain ⟨W0, hW0⟩ : ∃ W0, W0 = w.alloc (.cells #[.string name, .int .i64 ver] 66) := ⟨_, rfl⟩
  have hb0 : Below w.heap.size w W0 := by rw [hW0]; exact (Below.refl _ _).alloc (Nat.le_refl _) _
  have HB0 := hid hb0
  have hz0 : w.heap.size < W0.heap.size := by rw [hW0]; simp
  have HC0 : Hid (W0.heap[w.heap.size]? = some (.cells #[.string name, .int .i64 ver] 66)) := hid (by rw [hW0]; exact heap_alloc_new _ _)
  have HW0 := hid hW0
  have CL := hid (fun W => in_any layer 0 15 W)
  have CI := hid (fun W => image_spec name ver W)
  clear hW0 hb0
  by_cases hl : 0 ≤ layer ∧ layer ≤ 15
  · have HD := hid (decide_eq_true hl)
    have HL := hid hl
    obtain ⟨l, rfl⟩ := Int.eq_ofNat_of_zero_le hl.1
    have hl2 : l ≤ 1000000000 := by omega
    clear hl
    cases him : imgB name.data.toList ver with
    | false =>
      have HO : Hid (measOut l name.data.toList ver = (false, [])) := hid (by unfold measOut; rw [him, if_neg (by simp)])
      have HI := hid him
      clear him
      rw [HO.out]
      go_enter Tryz.func74, Tryz.ntmps74
      go_wp2_with (go_at_call 77; rw [← HW0.out]; refine (CL.out _).mono ?_; rintro e w1 ⟨rfl, e1⟩; rw [e1, HD.out]; clear e1 w1; refine Hid.out ?_)
      refine hid ?_
      have k0 := (cell_of_row _ _ 0 _ _ _ HC0.out).trans rfl
      have k1 := (cell_of_row _ _ 1 _ _ _ HC0.out).trans rfl
      go_wp2_with (go_at_call 34; refine (CI.out _).mono ?_; rintro e w2 ⟨rfl, hb2⟩; rw [HI.out]; refine Hid.out ?_)
      refine hid ?_
      have HB2 := hid (HB0.out.trans (hb2.mono HB0.out.size))
      clear hb2
      go_wp2
      go_ret2
      exact ⟨rfl, HB2.out⟩
    | true =>
      obtain ⟨k, rfl, hk⟩ := img_num him
      have HO : Hid (measOut l name.data.toList k = (madeB 4 (measOf l name.data.toList k), tmWith 4 (measOf l name.data.toList k))) := hid (by unfold measOut; rw [if_pos ⟨HL.out.1, HL.out.2, him⟩, Int.toNat_natCast, Int.toNat_natCast])
      have HI := hid him
      clear him
      rw [HO.out]
      dsimp only
      obtain ⟨nl, hnl⟩ : ∃ nl : ByteArray, (⟨(Num.nameOf l).toArray⟩ : ByteArray) = nl := ⟨_, rfl⟩
      obtain ⟨nv, hnv⟩ : ∃ nv : ByteArray, (⟨(Num.nameOf k).toArray⟩ : ByteArray) = nv := ⟨_, rfl⟩
      have C1 := hid (fun (W : World) => Num.specNumber_yes l hl2 W)
      have C2 := hid (fun (W : World) => Num.specNumber_yes k hk W)
      rw [hnl] at C1
      rw [hnv] at C2
      have M1 : Hid (∀ W : World, Calls Tryz.prog 133 #[.int .i64 4, .slice (some ⟨W.heap.size, 0, none⟩) 3 3] (W.alloc (.cells #[.string nl, .string name, .string nv] 9)) (MadeOut (W.alloc (.cells #[.string nl, .string name, .string nv] 9)) (madeB 4 (measOf l name.data.toList k)) (tmWith 4 (measOf l name.data.toList k)))) := hid (fun W => (make_spec 4 (measOf l name.data.toList k) _ _ (lit_texts W #[.string nl, .string name, .string nv] 9 (measOf l name.data.toList k) (fun j hj => by
        match j, hj with
        | 0, _ => rw [← hnl]; rfl
        | 1, _ => exact congrArg (fun b => some (Value.string b)) (back_bytes name).symm
        | 2, _ => rw [← hnv]; rfl))))
      unfold MadeOut at M1 ⊢
      clear hnl hnv
      generalize madeB 4 (measOf l name.data.toList k) = b at *
      generalize tmWith 4 (measOf l name.data.toList k) = t at *
      obtain ⟨y, hy⟩ : ∃ y : ByteArray, (if b = true then bytesOf t else ⟨#[]⟩) = y := ⟨_, rfl⟩
      rw [hy] at M1 ⊢
      clear hy
      go_enter Tryz.func74, Tryz.ntmps74
      go_wp2_with (go_at_call 77; rw [← HW0.out]; refine (CL.out _).mono ?_; rintro e w1 ⟨rfl, e1⟩; rw [e1, HD.out]; clear e1 w1; refine Hid.out ?_)
      refine hid ?_
      have k0 := (cell_of_row _ _ 0 _ _ _ HC0.out).trans rfl
      have k1 := (cell_of_row _ _ 1 _ _ _ HC0.out).trans rfl
      go_wp2_with (go_at_call 34; refine (CI.out _).mono ?_; rintro e w2 ⟨rfl, hb2⟩; rw [HI.out]; refine Hid.out ?_)
      refine hid ?_
      have hz2 := hb2.size
      have HB2 := hid (HB0.out.trans (hb2.mono HB0.out.size))
      have HC2 := hid ((hb2.block _ hz0).trans HC0.out)
      clear hb2 k0 k1
      have k0 := (cell_of_row _ _ 0 _ _ _ HC2.out).trans rfl
      have k1 := (cell_of_row _ _ 1 _ _ _ HC2.out).trans rfl
      go_wp2_with (go_at_call 132; refine (C1.out _).mono ?_; rintro e w3 ⟨rfl, hb3⟩; refine Hid.out ?_)
      refine hid ?_
      have hz3 := hb3.size
      have HB3 := hid (HB2.out.trans (hb3.mono HB2.out.size))
      have HC3 := hid ((hb3.block _ (by omega)).trans HC2.out)
      clear hb3 k0 k1
      have k0 := (cell_of_row _ _ 0 _ _ _ HC3.out).trans rfl
      have k1 := (cell_of_row _ _ 1 _ _ _ HC3.out).trans rfl
      go_wp2_with (go_at_call 132; refine (C2.out _).mono ?_; rintro e w4 ⟨rfl, hb4⟩; refine Hid.out ?_)
      refine hid ?_
      have hz4 := hb4.size
      have HB4 := hid (HB3.out.trans (hb4.mono HB3.out.size))
      have HC4 := hid ((hb4.block _ (by omega)).trans HC3.out)
      clear hb4 k0 k1
      have k0 := (cell_of_row _ _ 0 _ _ _ HC4.out).trans rfl
      have k1 := (cell_of_row _ _ 1 _ _ _ HC4.out).trans rfl
      have hz5 : w.heap.size < w4.heap.size := by omega
      go_wp2_with (go_at_call 133; refine (M1.out _).mono ?_; rintro e w5 ⟨rfl, hb5⟩; refine Hid.out ?_)
      refine hid ?_
      have HB5 := hid (HB4.out.trans (((Below.refl _ _).alloc (Nat.le_refl _) _).trans (hb5.mono (by simp)) |>.mono HB4.out.size))
      clear hb5
      go_wp2
      go_ret2
      exact ⟨rfl, HB5.out⟩
  · have HD := hid (decide_eq_false hl)
    have HO : Hid (measOut layer name.data.toList ver = (false, [])) := hid (by unfold measOut; rw [if_neg (fun h => hl ⟨h.1, h.2.1⟩)])
    clear hl
    rw [HO.out]
    go_enter Tryz.func74, Tryz.ntmps74
    go_wp2_with (go_at_call 77; rw [← HW0.out]; refine (CL.out _).mono ?_; rintro e w1 ⟨rfl, e1⟩; rw [e1, HD.out]; clear e1 w1; refine Hid.out ?_)
    refine hid ?_
    go_wp2
    all_goals
      go_ret2
      exact ⟨rfl, HB0.out⟩

theorem layer_calls (layer : Int) (w : World) :
    Calls Tryz.prog 135 #[.int .i64 layer] w fun e w' => e = .returned (.bool (decide (0 ≤ layer ∧ layer ≤ 15))) ∧ w' = w := by
  by_cases h0 : 0 ≤ layer
  · by_cases h1 : layer ≤ 15
    · go_enter Tryz.func135, Tryz.ntmps135
      go_wp2
      go_ret
      exact ⟨by simp [h0, h1], rfl⟩
    · go_enter Tryz.func135, Tryz.ntmps135
      go_wp2
      go_ret
      exact ⟨by simp [h1], rfl⟩
  · go_enter Tryz.func135, Tryz.ntmps135
    go_wp2
    go_ret
    exact ⟨by simp; omega, rfl⟩

set_option maxRecDepth 20000 in
set_option maxHeartbeats 2000000 in
theorem meas_impl (layer : Int) (name : ByteArray) (ver : Int) (w : World) (hT : Tab w) (hG : 0 < w.heap.size) (hP : Lib.TabIs Tryz.prog w "internal/strconv.uint64pow10" .u64 Lib.pow10Tab) :
    Calls Tryz.prog 136 #[.int .i64 layer, .agg #[.string name, .int .i64 ver]] w (MadeOut w (measOut layer name.data.toList ver).1 (measOut layer name.data.toList ver).2) := by
  obtain ⟨W0, hW0⟩ : ∃ W0, W0 = w.alloc (.cells #[.string name, .int .i64 ver] 66) := ⟨_, rfl⟩
  have hb0 : Below w.heap.size w W0 := by rw [hW0]; exact (Below.refl _ _).alloc (Nat.le_refl _) _
  have HB0 := hid hb0
  have hz0 : w.heap.size < W0.heap.size := by rw [hW0]; simp
  have HC0 : Hid (W0.heap[w.heap.size]? = some (.cells #[.string name, .int .i64 ver] 66)) := hid (by rw [hW0]; exact heap_alloc_new _ _)
  have HW0 := hid hW0
  have HT := hid (fun W (hb : Below w.heap.size w W) => tab_on hT hG hb)
  have HP := hid (fun W (hb : Below w.heap.size w W) => Num.tab_stays hb hP)
  have HGG := hid (fun W (hb : Below w.heap.size w W) => Nat.lt_of_lt_of_le hG hb.size)
  have CL := hid (fun W => layer_calls layer W)
  have CI := hid (fun W (hb : Below w.heap.size w W) => image_impl name ver W (HT.out W hb) (HGG.out W hb) (HP.out W hb))
  clear hW0 hb0 hT hP hG
  by_cases hl : 0 ≤ layer ∧ layer ≤ 15
  · have HD := hid (decide_eq_true hl)
    have HL := hid hl
    obtain ⟨l, rfl⟩ := Int.eq_ofNat_of_zero_le hl.1
    have hl2 : l ≤ 1000000000 := by omega
    clear hl
    cases him : imgB name.data.toList ver with
    | false =>
      have HO : Hid (measOut l name.data.toList ver = (false, [])) := hid (by unfold measOut; rw [him, if_neg (by simp)])
      have HI := hid him
      clear him
      rw [HO.out]
      go_enter Tryz.func136, Tryz.ntmps136
      go_wp2_with (go_at_call 135; rw [← HW0.out]; refine (CL.out _).mono ?_; rintro e w1 ⟨rfl, e1⟩; rw [e1, HD.out]; clear e1 w1; refine Hid.out ?_)
      refine hid ?_
      have k0 := (cell_of_row _ _ 0 _ _ _ HC0.out).trans rfl
      have k1 := (cell_of_row _ _ 1 _ _ _ HC0.out).trans rfl
      go_wp2_with (go_at_call 102; refine (CI.out _ HB0.out).mono ?_; rintro e w2 ⟨rfl, hb2⟩; rw [HI.out]; refine Hid.out ?_)
      refine hid ?_
      have HB2 := hid (HB0.out.trans (hb2.mono HB0.out.size))
      clear hb2
      go_wp2
      go_ret2
      exact ⟨rfl, HB2.out⟩
    | true =>
      obtain ⟨k, rfl, hk⟩ := img_num him
      have HO : Hid (measOut l name.data.toList k = (madeB 4 (measOf l name.data.toList k), tmWith 4 (measOf l name.data.toList k))) := hid (by unfold measOut; rw [if_pos ⟨HL.out.1, HL.out.2, him⟩, Int.toNat_natCast, Int.toNat_natCast])
      have HI := hid him
      clear him
      rw [HO.out]
      dsimp only
      obtain ⟨nl, hnl⟩ : ∃ nl : ByteArray, (⟨(Num.nameOf l).toArray⟩ : ByteArray) = nl := ⟨_, rfl⟩
      obtain ⟨nv, hnv⟩ : ∃ nv : ByteArray, (⟨(Num.nameOf k).toArray⟩ : ByteArray) = nv := ⟨_, rfl⟩
      have C1 := hid (fun (W : World) (hp : Lib.TabIs Tryz.prog W "internal/strconv.uint64pow10" .u64 Lib.pow10Tab) => Num.implNumber_yes l hl2 W hp)
      have C2 := hid (fun (W : World) (hp : Lib.TabIs Tryz.prog W "internal/strconv.uint64pow10" .u64 Lib.pow10Tab) => Num.implNumber_yes k hk W hp)
      rw [hnl] at C1
      rw [hnv] at C2
      have M1 : Hid (∀ W : World, Below w.heap.size w W → Calls Tryz.prog 154 #[.int .i64 4, .slice (some ⟨W.heap.size, 0, none⟩) 3 3] (W.alloc (.cells #[.string nl, .string name, .string nv] 9)) (MadeOut (W.alloc (.cells #[.string nl, .string name, .string nv] 9)) (madeB 4 (measOf l name.data.toList k)) (tmWith 4 (measOf l name.data.toList k)))) := hid (fun W (hb : Below w.heap.size w W) => (make_impl 4 (measOf l name.data.toList k) (some ⟨W.heap.size, 0, none⟩) 3 (Nat.le_refl _) _ (lit_texts W #[.string nl, .string name, .string nv] 9 (measOf l name.data.toList k) (fun j hj => by
        match j, hj with
        | 0, _ => rw [← hnl]; rfl
        | 1, _ => exact congrArg (fun b => some (Value.string b)) (back_bytes name).symm
        | 2, _ => rw [← hnv]; rfl)) (HT.out _ (hb.alloc hb.size _)) (HGG.out _ (hb.alloc hb.size _))))
      unfold MadeOut at M1 ⊢
      clear hnl hnv
      generalize madeB 4 (measOf l name.data.toList k) = b at *
      generalize tmWith 4 (measOf l name.data.toList k) = t at *
      obtain ⟨y, hy⟩ : ∃ y : ByteArray, (if b = true then bytesOf t else ⟨#[]⟩) = y := ⟨_, rfl⟩
      rw [hy] at M1 ⊢
      clear hy
      go_enter Tryz.func136, Tryz.ntmps136
      go_wp2_with (go_at_call 135; rw [← HW0.out]; refine (CL.out _).mono ?_; rintro e w1 ⟨rfl, e1⟩; rw [e1, HD.out]; clear e1 w1; refine Hid.out ?_)
      refine hid ?_
      have k0 := (cell_of_row _ _ 0 _ _ _ HC0.out).trans rfl
      have k1 := (cell_of_row _ _ 1 _ _ _ HC0.out).trans rfl
      go_wp2_with (go_at_call 102; refine (CI.out _ HB0.out).mono ?_; rintro e w2 ⟨rfl, hb2⟩; rw [HI.out]; refine Hid.out ?_)
      refine hid ?_
      have hz2 := hb2.size
      have HB2 := hid (HB0.out.trans (hb2.mono HB0.out.size))
      have HC2 := hid ((hb2.block _ hz0).trans HC0.out)
      clear hb2 k0 k1
      have k0 := (cell_of_row _ _ 0 _ _ _ HC2.out).trans rfl
      have k1 := (cell_of_row _ _ 1 _ _ _ HC2.out).trans rfl
      go_wp2_with (go_at_call 152; refine (C1.out _ (HP.out _ HB2.out)).mono ?_; rintro e w3 ⟨rfl, hb3⟩; refine Hid.out ?_)
      refine hid ?_
      have hz3 := hb3.size
      have HB3 := hid (HB2.out.trans (hb3.mono HB2.out.size))
      have HC3 := hid ((hb3.block _ (by omega)).trans HC2.out)
      clear hb3 k0 k1
      have k0 := (cell_of_row _ _ 0 _ _ _ HC3.out).trans rfl
      have k1 := (cell_of_row _ _ 1 _ _ _ HC3.out).trans rfl
      go_wp2_with (go_at_call 152; refine (C2.out _ (HP.out _ HB3.out)).mono ?_; rintro e w4 ⟨rfl, hb4⟩; refine Hid.out ?_)
      refine hid ?_
      have hz4 := hb4.size
      have HB4 := hid (HB3.out.trans (hb4.mono HB3.out.size))
      have HC4 := hid ((hb4.block _ (by omega)).trans HC3.out)
      clear hb4 k0 k1
      have k0 := (cell_of_row _ _ 0 _ _ _ HC4.out).trans rfl
      have k1 := (cell_of_row _ _ 1 _ _ _ HC4.out).trans rfl
      have hz5 : w.heap.size < w4.heap.size := by omega
      go_wp2_with (go_at_call 154; refine (M1.out _ HB4.out).mono ?_; rintro e w5 ⟨rfl, hb5⟩; refine Hid.out ?_)
      refine hid ?_
      have HB5 := hid (HB4.out.trans (((Below.refl _ _).alloc (Nat.le_refl _) _).trans (hb5.mono (by simp)) |>.mono HB4.out.size))
      clear hb5
      go_wp2
      go_ret2
      exact ⟨rfl, HB5.out⟩
  · have HD := hid (decide_eq_false hl)
    have HO : Hid (measOut layer name.data.toList ver = (false, [])) := hid (by unfold measOut; rw [if_neg (fun h => hl ⟨h.1, h.2.1⟩)])
    clear hl
    rw [HO.out]
    go_enter Tryz.func136, Tryz.ntmps136
    go_wp2_with (go_at_call 135; rw [← HW0.out]; refine (CL.out _).mono ?_; rintro e w1 ⟨rfl, e1⟩; rw [e1, HD.out]; clear e1 w1; refine Hid.out ?_)
    refine hid ?_
    go_wp2
    all_goals
      go_ret2
      exact ⟨rfl, HB0.out⟩
end Go.Proofs.YtnkaabgjfdbdoaaGreatDoor
