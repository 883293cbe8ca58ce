/- The names of numbers: spec.Number and impl.Number answer the name of a number in 0 .. 1000000000, and nothing of another one; nothing old is written; the table of powers of ten reads as it is laid. -/
import Derived.Test.YtjaaplcgphlccaaGreatDoorProg
import Derived.Test.YtjaaplcgphlccaaGreatDoorShelf
import Derived.Test.YtjaaplcgphlccaaGreatDoorNumPlain
import Derived.WalkKit
import Derived.WalkSpells
import Derived.WalkLawsBesides
import Derived.Lib.SmallJoins
namespace Go.Proofs.YtjaaplcgphlccaaGreatDoor.Num
open Go.RowKit Go.Sort
open Go.Lib (hid)

/-- The digits of a number, none for 0. -/
def dd (m : Nat) : List UInt8 := if m = 0 then [] else Lib.decDigits m

theorem dd_step (m : Nat) (h : 0 < m) : dd m = dd (m / 10) ++ [UInt8.ofNat (48 + m % 10)] := by
  unfold dd
  rw [if_neg (by omega), Lib.decDigits]
  by_cases h10 : m < 10
  · rw [dif_pos h10, if_pos (by omega), Nat.mod_eq_of_lt h10]; rfl
  · rw [dif_neg h10, if_neg (by omega)]

theorem dd_pos (n : Nat) (h : ¬ n = 0) : dd n = Lib.decDigits n := by unfold dd; rw [if_neg h]

theorem dd_len (n : Nat) : (dd n).length ≤ n := by
  induction n using Nat.strongRecOn with
  | ind n ih =>
    by_cases h : n = 0
    · subst h; simp [dd]
    · have := ih (n / 10) (by omega)
      rw [dd_step n (by omega)]
      simp
      omega

/-- One round more: the last digit of m goes ahead of what is gathered. -/
theorem dd_round (n m : Nat) (s : List UInt8) (h : 0 < m) (hs : dd m ++ s = dd n) : dd (m / 10) ++ (UInt8.ofNat (48 + m % 10) :: s) = dd n := by
  rw [← hs, dd_step m h, List.append_assoc]; rfl

set_option maxHeartbeats 400000 in
theorem l1Dec_calls (n : Nat) (h1 : n ≤ 1000000000) (w : World) :
    Calls Tryz.prog 68 #[.int .i64 n] w fun e w' => e = .returned (.string ⟨(Lib.decDigits n).toArray⟩) ∧ Below w.heap.size w w' := by
  by_cases h0 : n = 0
  · subst h0
    go_enter Tryz.func68, Tryz.ntmps68
    go_wp2
    go_ret
    exact ⟨by simp [Lib.decDigits], Below.refl _ _⟩
  · have hb : ((n : Int) == 0) = false := by rw [beq_eq_false_iff_ne]; omega
    go_enter Tryz.func68, Tryz.ntmps68
    go_wp2
    go_loopw [0, 3] (fun a o wr => ∃ m : Nat, ∃ s : List UInt8, m ≤ n ∧ a = .int .i64 m ∧ o = .string ⟨s.toArray⟩ ∧ dd m ++ s = dd n ∧ Below w.heap.size w wr) (fun a _ _ => (RowKit.intOf a).toNat)
    case atStart => exact ⟨n, [], Nat.le_refl _, rfl, rfl, by simp, Below.refl _ _⟩
    case round =>
      obtain ⟨m, s, hm, rfl, rfl, hs, hnx⟩ := hrel
      have hlen : s.length ≤ 1000000000 := by
        have := dd_len n
        have := congrArg List.length hs
        simp at this
        omega
      by_cases hlt : 0 < m
      · have HS := hid (dd_round n m s hlt hs)
        clear hs
        have hd : m % 10 < 10 := Nat.mod_lt _ (by omega)
        have hcv : ((UInt8.ofNat (48 + m % 10)).toNat : Int) = 48 + (m : Int) % 10 := by
          rw [UInt8.toNat_ofNat_of_lt' (by show _ < 256; omega)]; omega
        have hback := run_convert_bytes_back (P := Tryz.prog) (wr.alloc (.cells #[.int .u8 (48 + (m : Int) % 10)] 5)) 33 9 5 ⟨wr.heap.size, 0, none⟩ 1 [UInt8.ofNat (48 + m % 10)] Tryz.underlying33 Tryz.underlying5 Tryz.underlying9 (fun j hj => by
          have : j = 0 := by simpa using hj
          subst this
          show _ = some (Value.int .u8 ((UInt8.ofNat (48 + m % 10)).toNat : Int))
          rw [hcv]
          simp [Addr.add])
        clear hcv hd
        simp only [List.length_cons, List.length_nil, Nat.zero_add] at hback
        go_wp2
        go_roundw
        case rel =>
          refine ⟨m / 10, UInt8.ofNat (48 + m % 10) :: s, by omega, by go_num, ?_, HS.out, (hnx.alloc hnx.size _)⟩
          simpa using cat_bytes [UInt8.ofNat (48 + m % 10)] s
        case measure => simp [RowKit.intOf]; omega
      · have hm0 : m = 0 := by omega
        subst hm0
        have hs' : s = Lib.decDigits n := by rw [← dd_pos n h0, ← hs]; simp [dd]
        clear hs
        have HS := hid hs'
        clear hs'
        go_wp2
        go_ret
        exact ⟨by rw [HS.out]; rfl, hnx⟩


theorem grow_below {w : World} (k : Nat) (os : Array Obj) : Below w.heap.size w (Sort.grow (w.drewN k) os) := by
  refine ⟨rfl, rfl, rfl, by simp [Sort.grow, World.drewN], fun i hi => ?_⟩
  show (w.heap ++ os)[i]? = w.heap[i]?
  rw [Array.getElem?_append_left hi]

theorem implNumber_yes (k : Nat) (hk : k ≤ 1000000000) (w : World) (htab : Lib.TabIs Tryz.prog w "internal/strconv.uint64pow10" .u64 Lib.pow10Tab) :
    Calls Tryz.prog 84 #[.int .i64 k] w fun e w' => e = .returned (.tuple #[.string ⟨(nameOf k).toArray⟩, .bool true]) ∧ Below w.heap.size w w' := by
  have HN := hid (name_mk k)
  have hl : (Lib.decDigits k).length ≤ 10 := digits_len10 k hk
  have hi : Lib.itoa (k : Int) = Lib.decDigits k := by unfold Lib.itoa; rw [if_neg (by omega)]; rfl
  have HT := hid htab
  clear htab
  go_enter Tryz.func84, Tryz.ntmps84
  go_wp2_with (first | (go_at_call 93; refine (Tryz.strconv_FormatInt_10 _ (by omega) (by omega) _ HT.out).mono ?_; rintro e w1 ⟨rfl, j, os, rfl⟩; rw [hi]))
  go_ret2
  exact ⟨by rw [← HN.out]; rfl, grow_below _ _⟩

theorem implNumber_no (n : Int) (h : ¬ (0 ≤ n ∧ n ≤ 1000000000)) (w : World) :
    Calls Tryz.prog 84 #[.int .i64 n] w fun e w' => e = .returned (.tuple #[.string ⟨#[]⟩, .bool false]) ∧ w' = w := by
  by_cases h0 : n < 0
  · go_enter Tryz.func84, Tryz.ntmps84
    go_wp2
    go_ret2
    exact ⟨rfl, rfl⟩
  · have h1 : 1000000000 < n := by omega
    go_enter Tryz.func84, Tryz.ntmps84
    go_wp2
    go_ret2
    exact ⟨rfl, rfl⟩

theorem l1In_calls (n : Int) (w : World) :
    Calls Tryz.prog 67 #[.int .i64 n, .int .i64 0, .int .i64 1000000000] w fun e w' => e = .returned (.bool (decide (0 ≤ n ∧ n ≤ 1000000000))) ∧ w' = w := by
  by_cases h0 : 0 ≤ n
  · by_cases h1 : n ≤ 1000000000
    · go_enter Tryz.func67, Tryz.ntmps67
      go_wp2
      go_ret
      exact ⟨by simp [h0, h1], rfl⟩
    · go_enter Tryz.func67, Tryz.ntmps67
      go_wp2
      go_ret
      exact ⟨by simp [h1], rfl⟩
  · go_enter Tryz.func67, Tryz.ntmps67
    go_wp2
    go_ret
    exact ⟨by simp; omega, rfl⟩

theorem specNumber_yes (k : Nat) (hk : k ≤ 1000000000) (w : World) :
    Calls Tryz.prog 47 #[.int .i64 k] w fun e w' => e = .returned (.tuple #[.string ⟨(nameOf k).toArray⟩, .bool true]) ∧ Below w.heap.size w w' := by
  have hd : decide (0 ≤ (k : Int) ∧ (k : Int) ≤ 1000000000) = true := decide_eq_true ⟨by omega, by omega⟩
  have HN := hid (name_mk k)
  have hl : (Lib.decDigits k).length ≤ 10 := digits_len10 k hk
  go_enter Tryz.func47, Tryz.ntmps47
  go_wp2_with (first | (go_at_call 67; refine (l1In_calls _ _).mono ?_; rintro e w' ⟨rfl, rfl⟩; rw [hd]) | (go_at_call 68; refine (l1Dec_calls _ hk _).mono ?_; rintro e w1 ⟨rfl, hb1⟩))
  go_ret2
  exact ⟨by rw [← HN.out]; rfl, hb1⟩

theorem specNumber_no (n : Int) (h : ¬ (0 ≤ n ∧ n ≤ 1000000000)) (w : World) :
    Calls Tryz.prog 47 #[.int .i64 n] w fun e w' => e = .returned (.tuple #[.string ⟨#[]⟩, .bool false]) ∧ w' = w := by
  have hd : decide (0 ≤ n ∧ n ≤ 1000000000) = false := decide_eq_false h
  go_enter Tryz.func47, Tryz.ntmps47
  go_wp2_with (first | (go_at_call 67; refine (l1In_calls _ _).mono ?_; rintro e w' ⟨rfl, rfl⟩; rw [hd]))
  go_ret2
  exact ⟨rfl, rfl⟩

theorem tab_stays {w w1 : World} (h : Below w.heap.size w w1) (htab : Lib.TabIs Tryz.prog w "internal/strconv.uint64pow10" .u64 Lib.pow10Tab) : Lib.TabIs Tryz.prog w1 "internal/strconv.uint64pow10" .u64 Lib.pow10Tab :=
  Go.Joins.tab_stays (g := 1) (by kernel_rfl) htab h (Nat.le_refl _)
end Go.Proofs.YtjaaplcgphlccaaGreatDoor.Num
