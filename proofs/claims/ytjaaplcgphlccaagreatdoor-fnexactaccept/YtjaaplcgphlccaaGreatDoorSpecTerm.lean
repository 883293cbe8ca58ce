/- The specification's small functions on texts of terms: names, secrets, words, shapes; each answers its plain twin. -/
import Derived.Test.YtjaaplcgphlccaaGreatDoorProg
import Derived.Test.YtjaaplcgphlccaaGreatDoorTermPlain
import Derived.WalkKit
import Derived.WalkSpells
import Derived.WalkLawsBesides
import Derived.Lib.Hide
import Derived.Lib.Strings
import Derived.Deep.QuietTactic
import Derived.BigQuiet
namespace Go.Proofs.YtjaaplcgphlccaaGreatDoor
open Go.RowKit
open Go.Lib (hid)

theorem digit_calls (c : Int) (w : World) :
    Calls Tryz.prog 69 #[.int .u8 c] w fun e w' => e = .returned (.bool (decide (48 ≤ c ∧ c ≤ 57))) ∧ w' = w := by
  by_cases h0 : 48 ≤ c
  · by_cases h1 : c ≤ 57
    · go_enter Tryz.func69, Tryz.ntmps69
      go_wp2
      go_ret
      exact ⟨by simp [h0, h1], rfl⟩
    · go_enter Tryz.func69, Tryz.ntmps69
      go_wp2
      go_ret
      exact ⟨by simp [h1], rfl⟩
  · go_enter Tryz.func69, Tryz.ntmps69
    go_wp2
    go_ret
    exact ⟨by simp; omega, rfl⟩

theorem in_calls (n : Int) (w : World) :
    Calls Tryz.prog 67 #[.int .i64 n, .int .i64 3, .int .i64 7] w fun e w' => e = .returned (.bool (decide (3 ≤ n ∧ n ≤ 7))) ∧ w' = w := by
  by_cases h0 : 3 ≤ n
  · by_cases h1 : n ≤ 7
    · go_enter Tryz.func67, Tryz.ntmps67
      go_wp2
      go_ret
      exact ⟨by simp [h0, h1], rfl⟩
    · go_enter Tryz.func67, Tryz.ntmps67
      go_wp2
      go_ret
      exact ⟨by simp [h1], rfl⟩
  · go_enter Tryz.func67, Tryz.ntmps67
    go_wp2
    go_ret
    exact ⟨by simp; omega, rfl⟩

theorem at_list (s : ByteArray) (i : Nat) (h : i < s.size) : s.data.toList[i]? = some s[i] := by
  rw [List.getElem?_eq_getElem (by simpa using h)]
  rfl

theorem sname_no_len (s : ByteArray) (w : World) (h : ¬ (1 ≤ s.size ∧ s.size ≤ 12)) :
    Calls Tryz.prog 48 #[.string s] w fun e w' => e = .returned (.bool false) ∧ w' = w := by
  by_cases h1 : (s.size : Int) < 1
  · go_enter Tryz.func48, Tryz.ntmps48
    go_wp2
    go_ret
    exact ⟨rfl, rfl⟩
  · have h2 : 12 < (s.size : Int) := by omega
    go_enter Tryz.func48, Tryz.ntmps48
    go_wp2
    go_ret
    exact ⟨rfl, rfl⟩

theorem sname_no_first (s : ByteArray) (w : World) (h1 : 1 ≤ s.size) (h2 : s.size ≤ 12) (h0 : 0 < s.size) (hd : 48 ≤ s[0].toNat ∧ s[0].toNat ≤ 57) :
    Calls Tryz.prog 48 #[.string s] w fun e w' => e = .returned (.bool false) ∧ w' = w := by
  have i1 : ¬ (s.size : Int) < 1 := by omega
  have i2 : ¬ 12 < (s.size : Int) := by omega
  have hdec : decide ((48 : Int) ≤ s[0].toNat ∧ (s[0].toNat : Int) ≤ 57) = true := decide_eq_true (by omega)
  clear hd
  go_enter Tryz.func48, Tryz.ntmps48
  go_wp2_with (go_at_call 69; refine (digit_calls _ _).mono ?_; rintro e w' ⟨rfl, rfl⟩; rw [hdec])
  go_ret
  exact ⟨rfl, rfl⟩

theorem sname_rest (s : ByteArray) (w : World) (r : Bool) (hr : s.data.toList.all nmB = r) (h1 : 1 ≤ s.size) (h2 : s.size ≤ 12) (h0 : 0 < s.size) (hd : ¬ (48 ≤ s[0].toNat ∧ s[0].toNat ≤ 57)) :
    Calls Tryz.prog 48 #[.string s] w fun e w' => e = .returned (.bool r) ∧ w' = w := by
  have HRR := hid hr
  clear hr
  have i1 : ¬ (s.size : Int) < 1 := by omega
  have i2 : ¬ 12 < (s.size : Int) := by omega
  have hdec : decide ((48 : Int) ≤ s[0].toNat ∧ (s[0].toNat : Int) ≤ 57) = false := decide_eq_false (by omega)
  clear hd
  go_enter Tryz.func48, Tryz.ntmps48
  go_wp2_with (go_at_call 69; refine (digit_calls _ _).mono ?_; rintro e w' ⟨rfl, rfl⟩; rw [hdec])
  go_loop [3] (fun a => ∃ k : Nat, k ≤ s.size ∧ a = .int .i64 k ∧ (s.data.toList.take k).all nmB = true) (fun a => s.size - (RowKit.intOf a).toNat)
  case atStart => exact ⟨0, Nat.zero_le _, rfl, rfl⟩
  case round =>
    obtain ⟨k, hk, rfl, hall⟩ := hrel
    have HALL := hid hall
    clear hall
    by_cases hlt : k < s.size
    · have hsplit : s.data.toList.take (k + 1) = s.data.toList.take k ++ [s[k]] := by
        rw [List.take_add_one, at_list s k hlt]; rfl
      have HS := hid hsplit
      clear hsplit
      by_cases hg : 48 ≤ s[k].toNat ∧ s[k].toNat ≤ 57
      · have hdk : decide ((48 : Int) ≤ s[k].toNat ∧ (s[k].toNat : Int) ≤ 57) = true := decide_eq_true (by omega)
        have hn := hid (show nmB s[k] = true by simp only [nmB, isLow, isDig, Bool.or_eq_true, decide_eq_true_eq]; omega)
        clear hg
        go_wp2_with (go_at_call 69; refine (digit_calls _ _).mono ?_; rintro e w' ⟨rfl, rfl⟩; rw [hdk])
        go_round
        case rel => exact ⟨k + 1, by omega, by go_num, by rw [HS.out, List.all_append, HALL.out]; simpa using hn.out⟩
        case measure => simp [RowKit.intOf]; omega
      · have hdk : decide ((48 : Int) ≤ s[k].toNat ∧ (s[k].toNat : Int) ≤ 57) = false := decide_eq_false (by omega)
        by_cases hlow : 97 ≤ s[k].toNat ∧ s[k].toNat ≤ 122
        · have j1 : ¬ (s[k].toNat : Int) < 97 := by omega
          have j2 : ¬ 122 < (s[k].toNat : Int) := by omega
          have hn := hid (show nmB s[k] = true by simp only [nmB, isLow, isDig, Bool.or_eq_true, decide_eq_true_eq]; omega)
          clear hg hlow
          go_wp2_with (go_at_call 69; refine (digit_calls _ _).mono ?_; rintro e w' ⟨rfl, rfl⟩; rw [hdk])
          go_round
          case rel => exact ⟨k + 1, by omega, by go_num, by rw [HS.out, List.all_append, HALL.out]; simpa using hn.out⟩
          case measure => simp [RowKit.intOf]; omega
        · have hfalse : s.data.toList.all nmB = false := by
            rw [List.all_eq_false]
            refine ⟨s[k], List.mem_of_getElem? (at_list s k hlt), ?_⟩
            simp only [nmB, isLow, isDig, Bool.or_eq_true, decide_eq_true_eq]
            omega
          have HF := hid (HRR.out.symm.trans hfalse)
          clear hfalse hg
          by_cases j1 : (s[k].toNat : Int) < 97
          · clear hlow
            go_wp2_with (go_at_call 69; refine (digit_calls _ _).mono ?_; rintro e w' ⟨rfl, rfl⟩; rw [hdk])
            go_ret
            exact ⟨by rw [HF.out]; rfl, rfl⟩
          · have j2 : 122 < (s[k].toNat : Int) := by omega
            clear hlow
            go_wp2_with (go_at_call 69; refine (digit_calls _ _).mono ?_; rintro e w' ⟨rfl, rfl⟩; rw [hdk])
            go_ret
            exact ⟨by rw [HF.out]; rfl, rfl⟩
    · have hk2 : k = s.size := by omega
      subst hk2
      have hall := HALL.out
      rw [List.take_of_length_le (by simp)] at hall
      have HF := hid (HRR.out.symm.trans hall)
      clear hall
      go_wp2
      go_ret
      exact ⟨by rw [HF.out]; rfl, rfl⟩

theorem sname_calls (s : ByteArray) (w : World) :
    Calls Tryz.prog 48 #[.string s] w fun e w' => e = .returned (.bool (nameB s.data.toList)) ∧ w' = w := by
  have hsz : s.data.toList.length = s.size := by simp
  by_cases h : 1 ≤ s.size ∧ s.size ≤ 12
  · have h0 : 0 < s.size := by omega
    obtain ⟨c, r, hcr⟩ : ∃ c r, s.data.toList = c :: r := by
      cases hl : s.data.toList with
      | nil => rw [hl] at hsz; simp at hsz; omega
      | cons c r => exact ⟨c, r, rfl⟩
    have hc0 : s[0] = c := by
      have := at_list s 0 h0
      rw [hcr] at this
      exact (Option.some.inj this).symm
    have hlen : r.length ≤ 11 := by rw [hcr] at hsz; simp at hsz; omega
    by_cases hd : 48 ≤ s[0].toNat ∧ s[0].toNat ≤ 57
    · have hf : nameB s.data.toList = false := by
        rw [hcr]
        rw [hc0] at hd
        have : isLow c = false := by simp only [isLow, decide_eq_false_iff_not]; omega
        simp [nameB, this]
      rw [hf]
      exact sname_no_first s w h.1 h.2 h0 hd
    · have hf : nameB s.data.toList = s.data.toList.all nmB := by
        rw [hcr]
        rw [hc0] at hd
        have : nmB c = isLow c := by
          have : isDig c = false := by simp only [isDig, decide_eq_false_iff_not]; omega
          simp [nmB, this]
        simp [nameB, this, hlen]
      rw [hf]
      exact sname_rest s w _ rfl h.1 h.2 h0 hd
  · have hf : nameB s.data.toList = false := by
      cases hl : s.data.toList with
      | nil => rfl
      | cons c r =>
        rw [hl] at hsz
        have : ¬ r.length ≤ 11 := by simp at hsz; omega
        simp [nameB, this]
    rw [hf]
    exact sname_no_len s w h
end Go.Proofs.YtjaaplcgphlccaaGreatDoor
