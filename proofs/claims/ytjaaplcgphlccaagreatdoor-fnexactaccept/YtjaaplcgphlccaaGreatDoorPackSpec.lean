/- Laid together: SpecTerm, SpecShape, SpecCut, SpecKind, SpecKind2, SpecAll. -/
import Derived.Test.YtjaaplcgphlccaaGreatDoorProg
import Derived.Test.YtjaaplcgphlccaaGreatDoorTermPlain
import Derived.WalkKit
import Derived.WalkSpells
import Derived.WalkLawsBesides
import Derived.Lib.Hide
import Derived.Lib.Strings
import Derived.Deep.QuietTactic
import Derived.BigQuiet
import Derived.Test.YtjaaplcgphlccaaGreatDoorTermBoth
import Derived.Deep.RegionWith
import Derived.Deep.CutRange

namespace Go.Proofs.YtjaaplcgphlccaaGreatDoor
open Go.RowKit
open Go.Lib (hid)

theorem digit_calls (c : Int) (w : World) :
    Calls Tryz.prog 69 #[.int .u8 c] w fun e w' => e = .returned (.bool (decide (48 ≤ c ∧ c ≤ 57))) ∧ w' = w := by
  by_cases h0 : 48 ≤ c
  · by_cases h1 : c ≤ 57
    · go_enter Tryz.func69, Tryz.ntmps69
      go_wp2
      go_ret
      exact ⟨by simp [h0, h1], rfl⟩
    · go_enter Tryz.func69, Tryz.ntmps69
      go_wp2
      go_ret
      exact ⟨by simp [h1], rfl⟩
  · go_enter Tryz.func69, Tryz.ntmps69
    go_wp2
    go_ret
    exact ⟨by simp; omega, rfl⟩

theorem in_calls (n : Int) (w : World) :
    Calls Tryz.prog 67 #[.int .i64 n, .int .i64 3, .int .i64 7] w fun e w' => e = .returned (.bool (decide (3 ≤ n ∧ n ≤ 7))) ∧ w' = w := by
  by_cases h0 : 3 ≤ n
  · by_cases h1 : n ≤ 7
    · go_enter Tryz.func67, Tryz.ntmps67
      go_wp2
      go_ret
      exact ⟨by simp [h0, h1], rfl⟩
    · go_enter Tryz.func67, Tryz.ntmps67
      go_wp2
      go_ret
      exact ⟨by simp [h1], rfl⟩
  · go_enter Tryz.func67, Tryz.ntmps67
    go_wp2
    go_ret
    exact ⟨by simp; omega, rfl⟩

theorem at_list (s : ByteArray) (i : Nat) (h : i < s.size) : s.data.toList[i]? = some s[i] := by
  rw [List.getElem?_eq_getElem (by simpa using h)]
  rfl

theorem sname_no_len (s : ByteArray) (w : World) (h : ¬ (1 ≤ s.size ∧ s.size ≤ 12)) :
    Calls Tryz.prog 48 #[.string s] w fun e w' => e = .returned (.bool false) ∧ w' = w := by
  by_cases h1 : (s.size : Int) < 1
  · go_enter Tryz.func48, Tryz.ntmps48
    go_wp2
    go_ret
    exact ⟨rfl, rfl⟩
  · have h2 : 12 < (s.size : Int) := by omega
    go_enter Tryz.func48, Tryz.ntmps48
    go_wp2
    go_ret
    exact ⟨rfl, rfl⟩

theorem sname_no_first (s : ByteArray) (w : World) (h1 : 1 ≤ s.size) (h2 : s.size ≤ 12) (h0 : 0 < s.size) (hd : 48 ≤ s[0].toNat ∧ s[0].toNat ≤ 57) :
    Calls Tryz.prog 48 #[.string s] w fun e w' => e = .returned (.bool false) ∧ w' = w := by
  have i1 : ¬ (s.size : Int) < 1 := by omega
  have i2 : ¬ 12 < (s.size : Int) := by omega
  have hdec : decide ((48 : Int) ≤ s[0].toNat ∧ (s[0].toNat : Int) ≤ 57) = true := decide_eq_true (by omega)
  clear hd
  go_enter Tryz.func48, Tryz.ntmps48
  go_wp2_with (go_at_call 69; refine (digit_calls _ _).mono ?_; rintro e w' ⟨rfl, rfl⟩; rw [hdec])
  go_ret
  exact ⟨rfl, rfl⟩

theorem sname_rest (s : ByteArray) (w : World) (r : Bool) (hr : s.data.toList.all nmB = r) (h1 : 1 ≤ s.size) (h2 : s.size ≤ 12) (h0 : 0 < s.size) (hd : ¬ (48 ≤ s[0].toNat ∧ s[0].toNat ≤ 57)) :
    Calls Tryz.prog 48 #[.string s] w fun e w' => e = .returned (.bool r) ∧ w' = w := by
  have HRR := hid hr
  clear hr
  have i1 : ¬ (s.size : Int) < 1 := by omega
  have i2 : ¬ 12 < (s.size : Int) := by omega
  have hdec : decide ((48 : Int) ≤ s[0].toNat ∧ (s[0].toNat : Int) ≤ 57) = false := decide_eq_false (by omega)
  clear hd
  go_enter Tryz.func48, Tryz.ntmps48
  go_wp2_with (go_at_call 69; refine (digit_calls _ _).mono ?_; rintro e w' ⟨rfl, rfl⟩; rw [hdec])
  go_loop [3] (fun a => ∃ k : Nat, k ≤ s.size ∧ a = .int .i64 k ∧ (s.data.toList.take k).all nmB = true) (fun a => s.size - (RowKit.intOf a).toNat)
  case atStart => exact ⟨0, Nat.zero_le _, rfl, rfl⟩
  case round =>
    obtain ⟨k, hk, rfl, hall⟩ := hrel
    have HALL := hid hall
    clear hall
    by_cases hlt : k < s.size
    · have hsplit : s.data.toList.take (k + 1) = s.data.toList.take k ++ [s[k]] := by
        rw [List.take_add_one, at_list s k hlt]; rfl
      have HS := hid hsplit
      clear hsplit
      by_cases hg : 48 ≤ s[k].toNat ∧ s[k].toNat ≤ 57
      · have hdk : decide ((48 : Int) ≤ s[k].toNat ∧ (s[k].toNat : Int) ≤ 57) = true := decide_eq_true (by omega)
        have hn := hid (show nmB s[k] = true by simp only [nmB, isLow, isDig, Bool.or_eq_true, decide_eq_true_eq]; omega)
        clear hg
        go_wp2_with (go_at_call 69; refine (digit_calls _ _).mono ?_; rintro e w' ⟨rfl, rfl⟩; rw [hdk])
        go_round
        case rel => exact ⟨k + 1, by omega, by go_num, by rw [HS.out, List.all_append, HALL.out]; simpa using hn.out⟩
        case measure => simp [RowKit.intOf]; omega
      · have hdk : decide ((48 : Int) ≤ s[k].toNat ∧ (s[k].toNat : Int) ≤ 57) = false := decide_eq_false (by omega)
        by_cases hlow : 97 ≤ s[k].toNat ∧ s[k].toNat ≤ 122
        · have j1 : ¬ (s[k].toNat : Int) < 97 := by omega
          have j2 : ¬ 122 < (s[k].toNat : Int) := by omega
          have hn := hid (show nmB s[k] = true by simp only [nmB, isLow, isDig, Bool.or_eq_true, decide_eq_true_eq]; omega)
          clear hg hlow
          go_wp2_with (go_at_call 69; refine (digit_calls _ _).mono ?_; rintro e w' ⟨rfl, rfl⟩; rw [hdk])
          go_round
          case rel => exact ⟨k + 1, by omega, by go_num, by rw [HS.out, List.all_append, HALL.out]; simpa using hn.out⟩
          case measure => simp [RowKit.intOf]; omega
        · have hfalse : s.data.toList.all nmB = false := by
            rw [List.all_eq_false]
            refine ⟨s[k], List.mem_of_getElem? (at_list s k hlt), ?_⟩
            simp only [nmB, isLow, isDig, Bool.or_eq_true, decide_eq_true_eq]
            omega
          have HF := hid (HRR.out.symm.trans hfalse)
          clear hfalse hg
          by_cases j1 : (s[k].toNat : Int) < 97
          · clear hlow
            go_wp2_with (go_at_call 69; refine (digit_calls _ _).mono ?_; rintro e w' ⟨rfl, rfl⟩; rw [hdk])
            go_ret
            exact ⟨by rw [HF.out]; rfl, rfl⟩
          · have j2 : 122 < (s[k].toNat : Int) := by omega
            clear hlow
            go_wp2_with (go_at_call 69; refine (digit_calls _ _).mono ?_; rintro e w' ⟨rfl, rfl⟩; rw [hdk])
            go_ret
            exact ⟨by rw [HF.out]; rfl, rfl⟩
    · have hk2 : k = s.size := by omega
      subst hk2
      have hall := HALL.out
      rw [List.take_of_length_le (by simp)] at hall
      have HF := hid (HRR.out.symm.trans hall)
      clear hall
      go_wp2
      go_ret
      exact ⟨by rw [HF.out]; rfl, rfl⟩

theorem sname_calls (s : ByteArray) (w : World) :
    Calls Tryz.prog 48 #[.string s] w fun e w' => e = .returned (.bool (nameB s.data.toList)) ∧ w' = w := by
  have hsz : s.data.toList.length = s.size := by simp
  by_cases h : 1 ≤ s.size ∧ s.size ≤ 12
  · have h0 : 0 < s.size := by omega
    obtain ⟨c, r, hcr⟩ : ∃ c r, s.data.toList = c :: r := by
      cases hl : s.data.toList with
      | nil => rw [hl] at hsz; simp at hsz; omega
      | cons c r => exact ⟨c, r, rfl⟩
    have hc0 : s[0] = c := by
      have := at_list s 0 h0
      rw [hcr] at this
      exact (Option.some.inj this).symm
    have hlen : r.length ≤ 11 := by rw [hcr] at hsz; simp at hsz; omega
    by_cases hd : 48 ≤ s[0].toNat ∧ s[0].toNat ≤ 57
    · have hf : nameB s.data.toList = false := by
        rw [hcr]
        rw [hc0] at hd
        have : isLow c = false := by simp only [isLow, decide_eq_false_iff_not]; omega
        simp [nameB, this]
      rw [hf]
      exact sname_no_first s w h.1 h.2 h0 hd
    · have hf : nameB s.data.toList = s.data.toList.all nmB := by
        rw [hcr]
        rw [hc0] at hd
        have : nmB c = isLow c := by
          have : isDig c = false := by simp only [isDig, decide_eq_false_iff_not]; omega
          simp [nmB, this]
        simp [nameB, this, hlen]
      rw [hf]
      exact sname_rest s w _ rfl h.1 h.2 h0 hd
  · have hf : nameB s.data.toList = false := by
      cases hl : s.data.toList with
      | nil => rfl
      | cons c r =>
        rw [hl] at hsz
        have : ¬ r.length ≤ 11 := by simp at hsz; omega
        simp [nameB, this]
    rw [hf]
    exact sname_no_len s w h
end Go.Proofs.YtjaaplcgphlccaaGreatDoor

namespace Go.Proofs.YtjaaplcgphlccaaGreatDoor
open Go.RowKit
open Go.Lib (hid)

theorem tail_bytes (s : ByteArray) : (s.extract 1 s.size).data.toList = s.data.toList.tail := by
  rw [Lib.extract_data, List.drop_one]
  exact List.take_of_length_le (by simp)

theorem ssecret_calls (s : ByteArray) (w : World) :
    Calls Tryz.prog 72 #[.string s] w fun e w' => e = .returned (.bool (secretB s.data.toList)) ∧ w' = w := by
  have hsz : s.data.toList.length = s.size := by simp
  by_cases h1 : 1 < s.size
  · have h0 : 0 < s.size := by omega
    have i1 : (1 : Int) < s.size := by omega
    obtain ⟨c, r, hcr⟩ : ∃ c r, s.data.toList = c :: r := by
      cases hl : s.data.toList with
      | nil => rw [hl] at hsz; simp at hsz; omega
      | cons c r => exact ⟨c, r, rfl⟩
    have hc0 : s[0] = c := by
      have := at_list s 0 h0
      rw [hcr] at this
      exact (Option.some.inj this).symm
    by_cases h33 : c = 33
    · have hb : ((s[0].toNat : Int) == 33) = true := by rw [hc0, h33]; rfl
      have hres : secretB s.data.toList = nameB (s.extract 1 s.size).data.toList := by
        rw [tail_bytes, hcr, h33]
        simp [secretB]
      have HRes := hid hres
      clear hres hcr hc0 h33
      go_enter Tryz.func72, Tryz.ntmps72
      go_wp2_with (go_at_call 48; refine (sname_calls _ _).mono ?_; rintro e w' ⟨rfl, rfl⟩; rw [← HRes.out])
      go_ret
      exact ⟨rfl, rfl⟩
    · have hb : ((s[0].toNat : Int) == 33) = false := by
        rw [hc0, beq_eq_false_iff_ne]
        intro e
        exact h33 (UInt8.toNat_inj.1 (by have : c.toNat = 33 := by omega
                                         rw [this]; rfl))
      have hres : secretB s.data.toList = false := by rw [hcr]; simp [secretB, h33]
      have HRes := hid hres
      clear hres hcr hc0
      go_enter Tryz.func72, Tryz.ntmps72
      go_wp2
      go_ret
      exact ⟨by rw [HRes.out]; rfl, rfl⟩
  · have i1 : ¬ (1 : Int) < s.size := by omega
    have hres : secretB s.data.toList = false := by
      cases hl : s.data.toList with
      | nil => rfl
      | cons c r =>
        cases r with
        | nil => simp [secretB, nameB]
        | cons d r => rw [hl] at hsz; simp at hsz; omega
    have HRes := hid hres
    clear hres
    go_enter Tryz.func72, Tryz.ntmps72
    go_wp2
    go_ret
    exact ⟨by rw [HRes.out]; rfl, rfl⟩

theorem sword_calls (k : Nat) (h3 : 3 ≤ k) (h7 : k ≤ 7) (w : World) :
    Calls Tryz.prog 70 #[.int .i64 k] w fun e w' => e = .returned (.string ⟨(wordOf k).toArray⟩) ∧ w' = w.alloc (.cells #[.string ⟨#[112, 97, 105, 114]⟩, .string ⟨#[104, 97, 115, 104]⟩, .string ⟨#[115, 105, 103, 110]⟩, .string ⟨#[112, 117, 98]⟩, .string ⟨#[115, 101, 97, 108]⟩] 9) := by
  have hdec : decide ((3 : Int) ≤ (k : Int) ∧ (k : Int) ≤ 7) = true := decide_eq_true (by omega)
  match k, h3, h7 with
  | 3, _, _ =>
    go_enter Tryz.func70, Tryz.ntmps70
    go_wp2_with (go_at_call 67; refine (in_calls _ _).mono ?_; rintro e w' ⟨rfl, rfl⟩)
    go_ret
    exact ⟨rfl, rfl⟩
  | 4, _, _ =>
    go_enter Tryz.func70, Tryz.ntmps70
    go_wp2_with (go_at_call 67; refine (in_calls _ _).mono ?_; rintro e w' ⟨rfl, rfl⟩)
    go_ret
    exact ⟨rfl, rfl⟩
  | 5, _, _ =>
    go_enter Tryz.func70, Tryz.ntmps70
    go_wp2_with (go_at_call 67; refine (in_calls _ _).mono ?_; rintro e w' ⟨rfl, rfl⟩)
    go_ret
    exact ⟨rfl, rfl⟩
  | 6, _, _ =>
    go_enter Tryz.func70, Tryz.ntmps70
    go_wp2_with (go_at_call 67; refine (in_calls _ _).mono ?_; rintro e w' ⟨rfl, rfl⟩)
    go_ret
    exact ⟨rfl, rfl⟩
  | 7, _, _ =>
    go_enter Tryz.func70, Tryz.ntmps70
    go_wp2_with (go_at_call 67; refine (in_calls _ _).mono ?_; rintro e w' ⟨rfl, rfl⟩)
    go_ret
    exact ⟨rfl, rfl⟩

/-- The first part, where a shape looks at it. -/
def FirstAt (w : World) (g o : Nat) (ps : List (List UInt8)) : Prop := ∀ p r, ps = p :: r → w.cell? ⟨g, o, none⟩ = some (.string ⟨p.toArray⟩)

theorem shape_two (k : Nat) (hk : k = 3 ∨ k = 7) (n c g o : Nat) (w : World) :
    Calls Tryz.prog 74 #[.int .i64 k, .slice (some ⟨g, o, none⟩) n c] w fun e w' => e = .returned (.bool (decide ((n : Int) = 2))) ∧ w' = w := by
  rcases hk with rfl | rfl
  · go_enter Tryz.func74, Tryz.ntmps74
    go_wp2
    go_ret
    exact ⟨by rfl, rfl⟩
  · go_enter Tryz.func74, Tryz.ntmps74
    go_wp2
    go_ret
    exact ⟨by rfl, rfl⟩

theorem shape_hash (n c g o : Nat) (r : Bool) (hr : decide (1 ≤ n ∧ n ≤ 8) = r) (w : World) :
    Calls Tryz.prog 74 #[.int .i64 4, .slice (some ⟨g, o, none⟩) n c] w fun e w' => e = .returned (.bool r) ∧ w' = w := by
  by_cases h1 : 1 ≤ (n : Int)
  · by_cases h8 : (n : Int) ≤ 8
    · have hd := hid (hr.symm.trans (decide_eq_true (show 1 ≤ n ∧ n ≤ 8 by omega)))
      clear hr
      go_enter Tryz.func74, Tryz.ntmps74
      go_wp2
      go_ret
      exact ⟨by rw [hd.out]; rfl, rfl⟩
    · have hd := hid (hr.symm.trans (decide_eq_false (show ¬ (1 ≤ n ∧ n ≤ 8) by omega)))
      clear hr
      go_enter Tryz.func74, Tryz.ntmps74
      go_wp2
      go_ret
      exact ⟨by rw [hd.out]; rfl, rfl⟩
  · have hd := hid (hr.symm.trans (decide_eq_false (show ¬ (1 ≤ n ∧ n ≤ 8) by omega)))
    clear hr
    go_enter Tryz.func74, Tryz.ntmps74
    go_wp2
    go_ret
    exact ⟨by rw [hd.out]; rfl, rfl⟩

theorem shape_first_no (k m : Nat) (hk : k = 5 ∧ m = 2 ∨ k = 6 ∧ m = 1) (n c g o : Nat) (hn : n ≠ m) (w : World) :
    Calls Tryz.prog 74 #[.int .i64 k, .slice (some ⟨g, o, none⟩) n c] w fun e w' => e = .returned (.bool false) ∧ w' = w := by
  rcases hk with ⟨rfl, rfl⟩ | ⟨rfl, rfl⟩
  · have hb : ((n : Int) == 2) = false := by rw [beq_eq_false_iff_ne]; omega
    go_enter Tryz.func74, Tryz.ntmps74
    go_wp2
    go_ret
    exact ⟨rfl, rfl⟩
  · have hb : ((n : Int) == 1) = false := by rw [beq_eq_false_iff_ne]; omega
    go_enter Tryz.func74, Tryz.ntmps74
    go_wp2
    go_ret
    exact ⟨rfl, rfl⟩

theorem shape_first (k m : Nat) (hk : k = 5 ∧ m = 2 ∨ k = 6 ∧ m = 1) (c g o : Nat) (p : ByteArray) (w : World) (hp : w.cell? ⟨g, o, none⟩ = some (.string p)) :
    Calls Tryz.prog 74 #[.int .i64 k, .slice (some ⟨g, o, none⟩) m c] w fun e w' => e = .returned (.bool (secretB p.data.toList)) ∧ w' = w := by
  generalize hs : secretB p.data.toList = r
  have HS := hid hs
  clear hs
  rcases hk with ⟨rfl, rfl⟩ | ⟨rfl, rfl⟩
  · go_enter Tryz.func74, Tryz.ntmps74
    go_wp2_with (go_at_call 72; refine (ssecret_calls _ _).mono ?_; rintro e w' ⟨rfl, rfl⟩; rw [HS.out])
    go_ret
    exact ⟨rfl, rfl⟩
  · go_enter Tryz.func74, Tryz.ntmps74
    go_wp2_with (go_at_call 72; refine (ssecret_calls _ _).mono ?_; rintro e w' ⟨rfl, rfl⟩; rw [HS.out])
    go_ret
    exact ⟨rfl, rfl⟩

theorem shape_calls (k : Nat) (h3 : 3 ≤ k) (h7 : k ≤ 7) (ps : List (List UInt8)) (c g o : Nat) (w : World) (hf : FirstAt w g o ps) :
    Calls Tryz.prog 74 #[.int .i64 k, .slice (some ⟨g, o, none⟩) ps.length c] w fun e w' => e = .returned (.bool (shapeB k ps)) ∧ w' = w := by
  have first : ∀ m, (k = 5 ∧ m = 2 ∨ k = 6 ∧ m = 1) → leastOf k = m → mostOf k = m → firstOf k = true →
      Calls Tryz.prog 74 #[.int .i64 k, .slice (some ⟨g, o, none⟩) ps.length c] w fun e w' => e = .returned (.bool (shapeB k ps)) ∧ w' = w := by
    intro m hk h1 h2 h5
    by_cases hn : ps.length = m
    · cases hps : ps with
      | nil => rw [hps] at hn; simp at hn; rcases hk with ⟨_, h⟩ | ⟨_, h⟩ <;> omega
      | cons p r =>
        rw [← hps]
        have hc := hf p r hps
        have hb : shapeB k ps = secretB (⟨p.toArray⟩ : ByteArray).data.toList := by
          unfold shapeB
          rw [h1, h2, h5, hps]
          rw [hps] at hn
          simp only [List.headD_cons, Bool.not_true, Bool.false_or]
          rw [decide_eq_true (by omega)]
          rfl
        rw [hb, hn]
        exact shape_first k m hk c g o _ w hc
    · have hb : shapeB k ps = false := by
        unfold shapeB
        rw [h1, h2, decide_eq_false (by omega)]
        rfl
      rw [hb]
      exact shape_first_no k m hk _ c g o hn w
  have two : (k = 3 ∨ k = 7) → leastOf k = 2 → mostOf k = 2 → firstOf k = false →
      Calls Tryz.prog 74 #[.int .i64 k, .slice (some ⟨g, o, none⟩) ps.length c] w fun e w' => e = .returned (.bool (shapeB k ps)) ∧ w' = w := by
    intro hk h1 h2 h5
    have hb : shapeB k ps = decide ((ps.length : Int) = 2) := by
      unfold shapeB
      rw [h1, h2, h5]
      simp only [Bool.not_false, Bool.true_or, Bool.and_true]
      rw [Bool.eq_iff_iff, decide_eq_true_eq, decide_eq_true_eq]
      omega
    rw [hb]
    exact shape_two k hk _ c g o w
  match k, h3, h7 with
  | 3, _, _ => exact two (Or.inl rfl) rfl rfl rfl
  | 4, _, _ =>
    have hb : decide (1 ≤ ps.length ∧ ps.length ≤ 8) = shapeB 4 ps := by
      unfold shapeB
      simp [leastOf, mostOf, firstOf]
    exact shape_hash _ c g o _ hb w
  | 5, _, _ => exact first 2 (Or.inl ⟨rfl, rfl⟩) rfl rfl rfl
  | 6, _, _ => exact first 1 (Or.inr ⟨rfl, rfl⟩) rfl rfl rfl
  | 7, _, _ => exact two (Or.inr rfl) rfl rfl rfl
end Go.Proofs.YtjaaplcgphlccaaGreatDoor

namespace Go.Proofs.YtjaaplcgphlccaaGreatDoor
open Go.RowKit
open Go.Lib (hid)

/-- Texts as they lie in a row. -/
def strs (ps : List (List UInt8)) : List Value := ps.map fun x => .string ⟨x.toArray⟩

def CutOut (w : World) (l : List UInt8) (e : Ending) (w' : World) : Prop :=
  ∃ sv r, e = .returned (.tuple #[sv, .bool r]) ∧ Below w.heap.size w w' ∧ ((∃ ps, cutGo 0 [] l = some ps ∧ r = true ∧ w'.ownsRow w.heap.size 9 1 sv ps.length (strs ps)) ∨ (cutGo 0 [] l = none ∧ r = false))

/-- Where the cut stands. -/
structure Cut (w : World) (l : List UInt8) (wr : World) (out : Value) (acc : List (List UInt8)) (d f k : Nat) : Prop where
  own : wr.ownsRow w.heap.size 9 1 out acc.length (strs acc)
  below : Below w.heap.size w wr
  le : f ≤ k
  few : acc.length ≤ k
  deep : d ≤ k
  goes : cutGo 0 [] l = (cutGo d ((l.drop f).take (k - f)) (l.drop k)).map (acc ++ ·)

theorem take_more (s : ByteArray) (f k : Nat) (hf : f ≤ k) (hk : k < s.size) : (s.data.toList.drop f).take (k + 1 - f) = (s.data.toList.drop f).take (k - f) ++ [s[k]] := by
  have e : k + 1 - f = (k - f) + 1 := by omega
  rw [e, List.take_add_one, List.getElem?_drop, show f + (k - f) = k by omega, at_list s k hk]
  rfl

theorem drop_at (s : ByteArray) (k : Nat) (hk : k < s.size) : s.data.toList.drop k = s[k] :: s.data.toList.drop (k + 1) := by
  rw [List.drop_eq_getElem_cons (by simpa using hk)]
  rfl

theorem Cut.open {w : World} {s : ByteArray} {wr : World} {out : Value} {acc : List (List UInt8)} {d f k : Nat} (h : Cut w s.data.toList wr out acc d f k) (hk : k < s.size) (hc : s[k] = 40) : Cut w s.data.toList wr out acc (d + 1) f (k + 1) := by
  refine ⟨h.own, h.below, by have := h.le; omega, by have := h.few; omega, by have := h.deep; omega, ?_⟩
  rw [h.goes, drop_at s k hk, take_more s f k h.le hk, cutGo, if_pos hc]

theorem Cut.shut {w : World} {s : ByteArray} {wr : World} {out : Value} {acc : List (List UInt8)} {d f k : Nat} (h : Cut w s.data.toList wr out acc (d + 1) f k) (hk : k < s.size) (hc : s[k] = 41) : Cut w s.data.toList wr out acc d f (k + 1) := by
  refine ⟨h.own, h.below, by have := h.le; omega, by have := h.few; omega, by have := h.deep; omega, ?_⟩
  rw [h.goes, drop_at s k hk, take_more s f k h.le hk, cutGo, if_neg (by rw [hc]; decide), if_pos hc, if_neg (by omega)]
  rfl

theorem Cut.bad {w : World} {s : ByteArray} {wr : World} {out : Value} {acc : List (List UInt8)} {f k : Nat} (h : Cut w s.data.toList wr out acc 0 f k) (hk : k < s.size) (hc : s[k] = 41) : cutGo 0 [] s.data.toList = none := by
  rw [h.goes, drop_at s k hk, cutGo, if_neg (by rw [hc]; decide), if_pos hc, if_pos rfl]
  rfl

theorem Cut.plain {w : World} {s : ByteArray} {wr : World} {out : Value} {acc : List (List UInt8)} {d f k : Nat} (h : Cut w s.data.toList wr out acc d f k) (hk : k < s.size) (h40 : s[k] ≠ 40) (h41 : s[k] ≠ 41) (h32 : ¬ (s[k] = 32 ∧ d = 0)) : Cut w s.data.toList wr out acc d f (k + 1) := by
  refine ⟨h.own, h.below, by have := h.le; omega, by have := h.few; omega, by have := h.deep; omega, ?_⟩
  rw [h.goes, drop_at s k hk, take_more s f k h.le hk, cutGo, if_neg h40, if_neg h41, if_neg h32]

theorem strs_snoc (acc : List (List UInt8)) (x : List UInt8) : strs (acc ++ [x]) = strs acc ++ [.string ⟨x.toArray⟩] := by simp [strs]

theorem Cut.blank {w : World} {s : ByteArray} {wr w' : World} {out out' : Value} {acc : List (List UInt8)} {f k : Nat} (h : Cut w s.data.toList wr out acc 0 f k) (hk : k < s.size) (hc : s[k] = 32)
    (hown : w'.ownsRow w.heap.size 9 1 out' (acc.length + 1) (strs acc ++ [.string (s.extract f k)])) (hb : Below w.heap.size w w') : Cut w s.data.toList w' out' (acc ++ [(s.data.toList.drop f).take (k - f)]) 0 (k + 1) (k + 1) := by
  refine ⟨?_, hb, Nat.le_refl _, by have := h.few; simp; omega, by omega, ?_⟩
  · rw [strs_snoc, List.length_append, List.length_singleton, ← Lib.extract_eq]
    exact hown
  · rw [h.goes, drop_at s k hk, cutGo, if_neg (by rw [hc]; decide), if_neg (by rw [hc]; decide), if_pos ⟨hc, rfl⟩]
    have e : (s.data.toList.drop (k + 1)).take (k + 1 - (k + 1)) = [] := by simp
    rw [e]
    generalize cutGo 0 [] (s.data.toList.drop (k + 1)) = r
    cases r with
    | none => rfl
    | some ps => simp

theorem ne_byte {x c : UInt8} (h : x ≠ c) : ((x.toNat : Int) == (c.toNat : Int)) = false := by
  rw [beq_eq_false_iff_ne]
  intro e
  exact h (UInt8.toNat_inj.1 (by omega))

theorem strInfo : (Tryz.prog.info? 9).map (fun i => (i.zero, i.size, i.bytes)) = some (some (.string ⟨#[]⟩), 1, 16) := by kernel_rfl

set_option maxRecDepth 20000 in
set_option maxHeartbeats 1000000 in
theorem cut_calls (s : ByteArray) (hs : s.size ≤ 1048576) (w : World) :
    Calls Tryz.prog 73 #[.string s] w (CutOut w s.data.toList) := by
  obtain ⟨i0, hi0, hz0, hz1, hz2⟩ := info_parts strInfo
  go_enter Tryz.func73, Tryz.ntmps73
  go_wp2_with fail
  go_loopw [4, 5, 6, 7] (fun out dp fr iv wr => ∃ acc d f k, k ≤ s.size ∧ dp = .int .i64 (d : Nat) ∧ fr = .int .i64 (f : Nat) ∧ iv = .int .i64 (k : Nat) ∧ Cut w s.data.toList wr out acc d f k) (fun _ _ _ iv _ => s.size - (RowKit.intOf iv).toNat)
  case atStart =>
    refine ⟨[], 0, 0, 0, Nat.zero_le _, rfl, rfl, rfl, ⟨World.ownsRow_made w #[] 0 (Nat.le_refl _) (Nat.zero_le _) rfl, (Below.refl _ _).alloc (Nat.le_refl _) _, Nat.le_refl _, Nat.le_refl _, Nat.le_refl _, ?_⟩⟩
    simp
  case round =>
    obtain ⟨acc, d, f, k, hk, rfl, rfl, rfl, hcut⟩ := hrel
    have HC := hid hcut
    clear hcut
    by_cases hlt : k < s.size
    · by_cases h40 : s[k] = 40
      · have b40 : ((s[k].toNat : Int) == 40) = true := by rw [h40]; rfl
        have HN := hid (HC.out.open hlt h40)
        have hdp := HC.out.deep
        clear h40
        go_wp2
        go_roundw
        case rel => exact ⟨acc, d + 1, f, k + 1, by omega, by go_num, rfl, by go_num, HN.out⟩
        case measure => simp [RowKit.intOf]; omega
      · have b40 : ((s[k].toNat : Int) == 40) = false := ne_byte h40
        by_cases h41 : s[k] = 41
        · have b41 : ((s[k].toNat : Int) == 41) = true := by rw [h41]; rfl
          have hdp := HC.out.deep
          cases d with
          | zero =>
            have HN := hid (HC.out.bad hlt h41)
            clear h41 h40
            go_wp2
            go_ret2
            exact ⟨_, _, rfl, HC.out.below, Or.inr ⟨HN.out, rfl⟩⟩
          | succ d =>
            have HN := hid (HC.out.shut hlt h41)
            clear h41 h40
            go_wp2
            go_roundw
            case rel => exact ⟨acc, d, f, k + 1, by omega, by go_num, rfl, by go_num, HN.out⟩
            case measure => simp [RowKit.intOf]; omega
        · have b41 : ((s[k].toNat : Int) == 41) = false := ne_byte h41
          by_cases h32 : s[k] = 32
          · have b32 : ((s[k].toNat : Int) == 32) = true := by rw [h32]; rfl
            by_cases hd : d = 0
            · subst hd
              have H32 := hid h32
              have hle := HC.out.le
              have hfew := HC.out.few
              have hown := HC.out.own
              have hszw := HC.out.below.size
              clear h32 h40 h41
              go_wp2_with (at_builtin; refine wpList_append_own _ rfl _ _ 22 rfl w.heap.size 9 i0 _ 1 16 Tryz.underlying22 hi0 hz0 hz1 hz2 rfl (by decide) _ _ _ rfl (hown.alloc _) ⟨wr.heap.size, 0, none⟩ 1 1 [.string (s.extract f k)] rfl rfl ?c1 ?c2 ?c3 ?c4 ?c5 ?_)
              case c1 =>
                intro j u hj
                match j, hj with
                | 0, hj => simp at hj; subst hj; simp [Addr.add]
              case c2 => intro u hu; simp at hu; subst hu; rfl
              case c3 => unfold maxLen; omega
              case c4 => omega
              case c5 => simp; omega
              intro out' w1 hown' hgrow _
              have hbel : Below w.heap.size w w1 := ((HC.out.below.alloc hszw _).grown hgrow (by simp; omega) (fun g hg => (hown.lt g hg).1))
              have HN := hid (HC.out.blank hlt H32.out hown' hbel)
              clear hown' hgrow hown hbel
              go_wp2
              go_roundw
              case rel => exact ⟨_, 0, k + 1, k + 1, by omega, rfl, by go_num, by go_num, HN.out⟩
              case measure => simp [RowKit.intOf]; omega
            · have HN := hid (HC.out.plain hlt h40 h41 (fun h => hd h.2))
              have bd : ((d : Int) == 0) = false := by rw [beq_eq_false_iff_ne]; omega
              clear h32 h40 h41
              go_wp2
              go_roundw
              case rel => exact ⟨acc, d, f, k + 1, by omega, rfl, rfl, by go_num, HN.out⟩
              case measure => simp [RowKit.intOf]; omega
          · have b32 : ((s[k].toNat : Int) == 32) = false := ne_byte h32
            have HN := hid (HC.out.plain hlt h40 h41 (fun h => h32 h.1))
            clear h32 h40 h41
            go_wp2
            go_roundw
            case rel => exact ⟨acc, d, f, k + 1, by omega, rfl, rfl, by go_num, HN.out⟩
            case measure => simp [RowKit.intOf]; omega
    · have hk2 : k = s.size := by omega
      subst hk2
      have hle := HC.out.le
      have hfew := HC.out.few
      have hown := HC.out.own
      have hszw := HC.out.below.size
      have hend : cutGo 0 [] s.data.toList = (if d = 0 then some [(s.data.toList.drop f).take (s.size - f)] else none).map (acc ++ ·) := by
        have e : s.data.toList.drop s.size = [] := List.drop_eq_nil_of_le (by simp)
        rw [HC.out.goes, e]
        rfl
      have HE := hid hend
      clear hend
      by_cases hd : d = 0
      all_goals
        obtain ⟨r, hr⟩ : ∃ r : Bool, ((d : Int) == 0) = r := ⟨_, rfl⟩
        have HD := hid hd
        clear hd
        go_wp2_with (at_builtin; refine wpList_append_own _ rfl _ _ 22 rfl w.heap.size 9 i0 _ 1 16 Tryz.underlying22 hi0 hz0 hz1 hz2 rfl (by decide) _ _ _ rfl (hown.alloc _) ⟨wr.heap.size, 0, none⟩ 1 1 [.string (s.extract f s.size)] rfl rfl ?c1 ?c2 ?c3 ?c4 ?c5 ?_)
        case c1 =>
          intro j u hj
          match j, hj with
          | 0, hj => simp at hj; subst hj; simp [Addr.add]
        case c2 => intro u hu; simp at hu; subst hu; rfl
        case c3 => unfold maxLen; omega
        case c4 => omega
        case c5 => simp; omega
        intro out' w1 hown' hgrow _
        have hbel : Below w.heap.size w w1 := ((HC.out.below.alloc hszw _).grown hgrow (by simp; omega) (fun g hg => (hown.lt g hg).1))
        have HB := hid hbel
        have HO := hid hown'
        clear hown' hgrow hown hbel
        go_wp2
        go_ret2
        refine ⟨_, _, rfl, HB.out, ?_⟩
        rw [HE.out]
      · rw [if_pos HD.out]
        refine Or.inl ⟨_, rfl, hr.symm.trans (by rw [beq_iff_eq]; have := HD.out; omega), ?_⟩
        rw [strs_snoc, List.length_append, List.length_singleton, ← Lib.extract_eq]
        exact HO.out
      · rw [if_neg HD.out]
        exact Or.inr ⟨rfl, hr.symm.trans (by rw [beq_eq_false_iff_ne]; have := HD.out; omega)⟩
end Go.Proofs.YtjaaplcgphlccaaGreatDoor

namespace Go.Proofs.YtjaaplcgphlccaaGreatDoor
open Go.RowKit
open Go.Lib (hid)

def KindOut (w : World) (d : Nat) (l : List UInt8) (e : Ending) (w' : World) : Prop :=
  ∃ sv, e = .returned (.tuple #[.int .i64 ((kindS d l).1 : Nat), sv]) ∧ Below w.heap.size w w' ∧ w'.ownsRow w.heap.size 9 1 sv (kindS d l).2.length (strs (kindS d l).2)

def KindAll (d : Nat) : Prop := ∀ (s : ByteArray) (w : World) (a : Int), a = d → s.size ≤ 1048576 → Calls Tryz.prog 50 #[.string s, .int .i64 a] w (KindOut w d s.data.toList)

theorem KindOut.empty {w w' : World} {d k : Nat} {l : List UInt8} {sv : Value} (h : kindS d l = (k, [])) (hb : Below w.heap.size w w') (ho : w'.ownsRow w.heap.size 9 1 sv 0 []) : KindOut w d l (.returned (.tuple #[.int .i64 (k : Nat), sv])) w' := by
  refine ⟨sv, by rw [h], hb, ?_⟩
  rw [h]
  exact ho

theorem none_own (w : World) : (w.alloc (.cells #[] 9)).ownsRow w.heap.size 9 1 (.slice (some ⟨w.heap.size, 0, none⟩) 0 0) 0 [] := World.ownsRow_made w #[] 0 (Nat.le_refl _) (Nat.zero_le _) rfl

theorem kind_name (d : Nat) (s : ByteArray) (w : World) (a : Int) (hn : nameB s.data.toList = true) :
    Calls Tryz.prog 50 #[.string s, .int .i64 a] w (KindOut w d s.data.toList) := by
  have hk : kindS d s.data.toList = (1, []) := by cases d <;> simp [kindS, hn]
  have HK := hid hk
  have HN := hid hn
  clear hk hn
  go_enter Tryz.func50, Tryz.ntmps50
  go_wp2_with (go_at_call 48; refine (sname_calls _ _).mono ?_; rintro e w' ⟨rfl, rfl⟩; rw [HN.out])
  go_ret2
  exact KindOut.empty HK.out ((Below.refl _ _).alloc (Nat.le_refl _) _) (none_own _)

theorem kind_secret (d : Nat) (s : ByteArray) (w : World) (a : Int) (hs : secretB s.data.toList = true) :
    Calls Tryz.prog 50 #[.string s, .int .i64 a] w (KindOut w d s.data.toList) := by
  have hn := secret_not_name hs
  have hk : kindS d s.data.toList = (2, []) := by cases d <;> simp [kindS, hn, hs]
  have HK := hid hk
  have HN := hid hn
  have HS := hid hs
  clear hk hn hs
  go_enter Tryz.func50, Tryz.ntmps50
  go_wp2_with (first | (go_at_call 48; refine (sname_calls _ _).mono ?_; rintro e w' ⟨rfl, rfl⟩; rw [HN.out]) | (go_at_call 72; refine (ssecret_calls _ _).mono ?_; rintro e w' ⟨rfl, rfl⟩; rw [HS.out]))
  go_ret2
  exact KindOut.empty HK.out ((Below.refl _ _).alloc (Nat.le_refl _) _) (none_own _)

/-- The first test of what stands in brackets. -/
def Brackets (s : ByteArray) : Prop := ∃ h : 2 ≤ s.size, s[0] = 40 ∧ s[s.size - 1] = 41

theorem kind_no (d : Nat) (s : ByteArray) (w : World) (a : Int) (hsm : s.size ≤ 1048576) (ha : a = d) (hn : nameB s.data.toList = false) (hs : secretB s.data.toList = false) (hb : d = 0 ∨ ¬ Brackets s) (hk : kindS d s.data.toList = (0, [])) :
    Calls Tryz.prog 50 #[.string s, .int .i64 a] w (KindOut w d s.data.toList) := by
  have HK := hid hk
  have HN := hid hn
  have HS := hid hs
  clear hk hn hs
  by_cases hd : a = 0
  · have h0 : (a == 0) = true := by rw [beq_iff_eq]; exact hd
    have HH := hid hd
    clear hd ha hb
    go_enter Tryz.func50, Tryz.ntmps50
    go_wp2_with (first | (go_at_call 48; refine (sname_calls _ _).mono ?_; rintro e w' ⟨rfl, rfl⟩; rw [HN.out]) | (go_at_call 72; refine (ssecret_calls _ _).mono ?_; rintro e w' ⟨rfl, rfl⟩; rw [HS.out]))
    go_ret2
    exact KindOut.empty HK.out ((Below.refl _ _).alloc (Nat.le_refl _) _) (none_own _)
  · have h0 : (a == 0) = false := by rw [beq_eq_false_iff_ne]; exact hd
    have hnb : ¬ Brackets s := by
      rcases hb with hb | hb
      · omega
      · exact hb
    clear hb hd ha
    by_cases h2 : 2 ≤ s.size
    · have i2 : ¬ (s.size : Int) < 2 := by omega
      have hz : 0 < s.size := by omega
      have hl : s.size - 1 < s.size := by omega
      by_cases h40 : s[0] = 40
      · have h41 : s[s.size - 1] ≠ 41 := fun h => hnb ⟨h2, h40, h⟩
        have b40 : ((s[0].toNat : Int) != 40) = false := by rw [h40]; rfl
        have b41 : ((s[s.size - 1].toNat : Int) != 41) = true := by
          have := ne_byte h41
          simpa [bne] using this
        clear h40 h41 hnb
        go_enter Tryz.func50, Tryz.ntmps50
        go_wp2_with (first | (go_at_call 48; refine (sname_calls _ _).mono ?_; rintro e w' ⟨rfl, rfl⟩; rw [HN.out]) | (go_at_call 72; refine (ssecret_calls _ _).mono ?_; rintro e w' ⟨rfl, rfl⟩; rw [HS.out]))
        go_ret2
        exact KindOut.empty HK.out ((Below.refl _ _).alloc (Nat.le_refl _) _) (none_own _)
      · have b40 : ((s[0].toNat : Int) != 40) = true := by
          have := ne_byte h40
          simpa [bne] using this
        clear h40 hnb
        go_enter Tryz.func50, Tryz.ntmps50
        go_wp2_with (first | (go_at_call 48; refine (sname_calls _ _).mono ?_; rintro e w' ⟨rfl, rfl⟩; rw [HN.out]) | (go_at_call 72; refine (ssecret_calls _ _).mono ?_; rintro e w' ⟨rfl, rfl⟩; rw [HS.out]))
        go_ret2
        exact KindOut.empty HK.out ((Below.refl _ _).alloc (Nat.le_refl _) _) (none_own _)
    · have i2 : (s.size : Int) < 2 := by omega
      clear h2 hnb
      go_enter Tryz.func50, Tryz.ntmps50
      go_wp2_with (first | (go_at_call 48; refine (sname_calls _ _).mono ?_; rintro e w' ⟨rfl, rfl⟩; rw [HN.out]) | (go_at_call 72; refine (ssecret_calls _ _).mono ?_; rintro e w' ⟨rfl, rfl⟩; rw [HS.out]))
      go_ret2
      exact KindOut.empty HK.out ((Below.refl _ _).alloc (Nat.le_refl _) _) (none_own _)

/-- The pieces, as they lie in their row. -/
def KRow (w : World) (g : Nat) (ps : List (List UInt8)) : Prop := g < w.heap.size ∧ ∀ j (hj : j < ps.length), w.cell? ⟨g, j, none⟩ = some (.string ⟨ps[j].toArray⟩)

theorem KRow.on {w w' : World} {g : Nat} {ps : List (List UInt8)} (h : KRow w g ps) (hb : Below w.heap.size w w') : KRow w' g ps :=
  ⟨Nat.lt_of_lt_of_le h.1 hb.size, fun j hj => by rw [hb.cell (p := ⟨g, j, none⟩) h.1]; exact h.2 j hj⟩

theorem own_on {w w' : World} {base size n : Nat} {e : TypeId} {v : Value} {xs : List Value} (h : w.ownsRow base e size v n xs) (hb : Below w.heap.size w w') : w'.ownsRow base e size v n xs := by
  refine ⟨h.1, ?_⟩
  rcases h.2 with hn | ⟨g, cap, cur, e1, hbg, hg, rest⟩
  · exact Or.inl hn
  · exact Or.inr ⟨g, cap, cur, e1, hbg, (hb.block g (Array.getElem?_eq_some_iff.1 hg).1).trans hg, rest⟩

theorem addr_at (g j : Nat) : (⟨g, 0, none⟩ : Addr).add j = ⟨g, j, none⟩ := by
  unfold Addr.add
  split <;> simp_all

theorem row_shape {w : World} {base : Nat} {sv : Value} {ps : List (List UInt8)} (h : w.ownsRow base 9 1 sv ps.length (strs ps)) : ∃ p c, sv = .slice p ps.length c := by
  rcases h.2 with ⟨hv, hz⟩ | ⟨g, cap, cur, e1, _⟩
  · exact ⟨none, 0, by rw [hv, hz]⟩
  · exact ⟨_, _, e1⟩

theorem krow_of {w : World} {base : Nat} {sv : Value} {ps : List (List UInt8)} (h : w.ownsRow base 9 1 sv ps.length (strs ps)) (hn : 0 < ps.length) : ∃ g c, sv = .slice (some ⟨g, 0, none⟩) ps.length c ∧ KRow w g ps ∧ base ≤ g ∧ ps.length ≤ c := by
  rcases h.2 with ⟨_, hz⟩ | ⟨g, cap, cur, e1, hbg, hg, hnc, _⟩
  · omega
  · refine ⟨g, cap, e1, ⟨(Array.getElem?_eq_some_iff.1 hg).1, fun j hj => ?_⟩, hbg, hnc⟩
    have := h.cells (g := g) (by rw [e1]; rfl) j (.string ⟨ps[j].toArray⟩) (by simp [strs, hj])
    rw [addr_at] at this
    exact this

theorem inner_bytes (s : ByteArray) (h : Brackets s) : inner s.data.toList = some (s.extract 1 (s.size - 1)).data.toList := by
  obtain ⟨h2, h40, h41⟩ := h
  rw [inner_some, Lib.extract_data]
  have hsz : s.data.toList.length = s.size := by simp
  have e0 : s.data.toList.drop 0 = s[0] :: s.data.toList.drop 1 := drop_at s 0 (by omega)
  rw [List.drop_zero, h40] at e0
  have e1 : s.data.toList.drop (s.size - 1) = s[s.size - 1] :: s.data.toList.drop (s.size - 1 + 1) := drop_at s (s.size - 1) (by omega)
  have e2 : s.data.toList.drop (s.size - 1 + 1) = [] := List.drop_eq_nil_of_le (by omega)
  rw [h41, e2] at e1
  rw [e0]
  congr 1
  have : (s.data.toList.drop 1).drop (s.size - 1 - 1) = [41] := by rw [List.drop_drop, show 1 + (s.size - 1 - 1) = s.size - 1 by omega]; exact e1
  have h3 := List.take_append_drop (s.size - 1 - 1) (s.data.toList.drop 1)
  rw [this] at h3
  exact h3.symm

set_option maxHeartbeats 1000000 in
theorem kind_cutno (d : Nat) (s : ByteArray) (w : World) (a : Int) (hsm : s.size ≤ 1048576) (ha : a ≠ 0) (hn : nameB s.data.toList = false) (hs : secretB s.data.toList = false) (hb : Brackets s) (hk : kindS d s.data.toList = (0, []))
    (hc : ∀ ps, cutGo 0 [] (s.extract 1 (s.size - 1)).data.toList = some ps → ps.length < 2) :
    Calls Tryz.prog 50 #[.string s, .int .i64 a] w (KindOut w d s.data.toList) := by
  have HK := hid hk
  have HN := hid hn
  have HS := hid hs
  have HC := hid hc
  have h0 : (a == 0) = false := by rw [beq_eq_false_iff_ne]; exact ha
  obtain ⟨h2, h40, h41⟩ := hb
  have i2 : ¬ (s.size : Int) < 2 := by omega
  have hz : 0 < s.size := by omega
  have hl : s.size - 1 < s.size := by omega
  have b40 : ((s[0].toNat : Int) != 40) = false := by rw [h40]; rfl
  have b41 : ((s[s.size - 1].toNat : Int) != 41) = false := by rw [h41]; rfl
  have hms : (s.extract 1 (s.size - 1)).size ≤ 1048576 := by
    have : (s.extract 1 (s.size - 1)).size = min (s.size - 1) s.size - 1 := by simp
    omega
  clear hk hn hs hc ha h40 h41 h2
  go_enter Tryz.func50, Tryz.ntmps50
  go_wp2_with (first | (go_at_call 48; refine (sname_calls _ _).mono ?_; rintro e w' ⟨rfl, rfl⟩; rw [HN.out]) | (go_at_call 72; refine (ssecret_calls _ _).mono ?_; rintro e w' ⟨rfl, rfl⟩; rw [HS.out]) | (go_at_call 73; refine (cut_calls _ hms _).mono ?_; rintro e w2 ⟨sv, r, rfl, hb2, hor⟩; refine Hid.out ?_))
  refine hid ?_
  have hbel := ((Below.refl w.heap.size w).alloc (Nat.le_refl _) (.cells #[] 9)).trans (hb2.mono (by simp))
  have hnone := own_on (none_own w) hb2
  rcases hor with ⟨ps, hps, hr, hown⟩ | ⟨_, hr⟩
  · have hlt := HC.out ps hps
    obtain ⟨p, c, hsv⟩ := row_shape hown
    subst hsv
    subst hr
    have i3 : (ps.length : Int) < 2 := by omega
    have HO := hid hnone
    have HB := hid hbel
    clear hps hown hb2 hnone hbel
    go_wp2
    go_ret2
    exact KindOut.empty HK.out HB.out HO.out
  · subst hr
    have HO := hid hnone
    have HB := hid hbel
    clear hb2 hnone hbel
    go_wp2
    go_ret2
    exact KindOut.empty HK.out HB.out HO.out
end Go.Proofs.YtjaaplcgphlccaaGreatDoor

namespace Go.Proofs.YtjaaplcgphlccaaGreatDoor
open Go.RowKit
open Go.Lib (hid)

theorem kind_res (d : Nat) (s : ByteArray) (hn : nameB s.data.toList = false) (hs : secretB s.data.toList = false) (hb : Brackets s) (p0 p1 : List UInt8) (qs : List (List UInt8))
    (hcut : cutGo 0 [] (s.extract 1 (s.size - 1)).data.toList = some (p0 :: p1 :: qs)) :
    kindS (d + 1) s.data.toList = if kindOfW p0 ≠ 0 ∧ shapeB (kindOfW p0) (p1 :: qs) = true ∧ (p1 :: qs).all (fun x => (kindS d x).1 != 0) = true then (kindOfW p0, p1 :: qs) else (0, []) := by
  have hi : (inner s.data.toList).bind (cutGo 0 []) = some (p0 :: p1 :: qs) := by rw [inner_bytes s hb]; exact hcut
  simp only [kindS, hn, hs, Bool.false_eq_true, if_false]
  unfold brk
  rw [hi]

theorem cutGo_len (l : List UInt8) : ∀ d cur ps, cutGo d cur l = some ps → ps.length ≤ l.length + 1 := by
  induction l with
  | nil =>
    intro d cur ps h
    unfold cutGo at h
    split at h
    · have := Option.some.inj h
      subst this
      simp
    · cases h
  | cons c r ih =>
    intro d cur ps h
    unfold cutGo at h
    split at h
    · have := ih _ _ _ h; simp; omega
    · split at h
      · split at h
        · cases h
        · have := ih _ _ _ h; simp; omega
      · split at h
        · obtain ⟨qs, hq, rfl⟩ := Option.map_eq_some_iff.1 h
          have := ih _ _ _ hq
          simp
          omega
        · have := ih _ _ _ h; simp; omega

theorem glue_mem : ∀ (ps : List (List UInt8)) (x : List UInt8), x ∈ ps → x.length ≤ (glue ps).length
  | [], x, h => by cases h
  | [y], x, h => by
    have := List.mem_singleton.1 h
    subst this
    exact Nat.le_refl _
  | y :: z :: r, x, h => by
    rw [show glue (y :: z :: r) = y ++ 32 :: glue (z :: r) from rfl, List.length_append, List.length_cons]
    rcases List.mem_cons.1 h with h | h
    · subst h; omega
    · have := glue_mem (z :: r) x h
      omega

/-- Where the loop over the kinds stands. -/
structure Kinds (w : World) (g : Nat) (pieces : List (List UInt8)) (kk : Nat) (wr : World) : Prop where
  low : 3 ≤ kk
  high : kk ≤ 8
  past : ∀ j, 3 ≤ j → j < kk → ¬ (pieces.headD [] = wordOf j ∧ shapeB j pieces.tail = true)
  below : Below w.heap.size w wr
  row : KRow wr g pieces
  empty : wr.ownsRow w.heap.size 9 1 (.slice (some ⟨w.heap.size, 0, none⟩) 0 0) 0 []

theorem Kinds.on {w : World} {g : Nat} {pieces : List (List UInt8)} {kk : Nat} {wr w' : World} (h : Kinds w g pieces kk wr) (hb : Below wr.heap.size wr w') : Kinds w g pieces kk w' :=
  ⟨h.low, h.high, h.past, h.below.trans (hb.mono h.below.size), h.row.on hb, own_on h.empty hb⟩

theorem Kinds.next {w : World} {g : Nat} {pieces : List (List UInt8)} {kk : Nat} {wr : World} (h : Kinds w g pieces kk wr) (h7 : kk ≤ 7) (hn : ¬ (pieces.headD [] = wordOf kk ∧ shapeB kk pieces.tail = true)) : Kinds w g pieces (kk + 1) wr :=
  ⟨by have := h.low; omega, by omega, fun j h3 hj => by
    by_cases e : j = kk
    · subst e; exact hn
    · exact h.past j h3 (by omega), h.below, h.row, h.empty⟩

theorem Kinds.first {w : World} {g : Nat} {p0 : List UInt8} {ps : List (List UInt8)} {kk : Nat} {wr : World} (h : Kinds w g (p0 :: ps) kk wr) : wr.cell? ⟨g, 0, none⟩ = some (.string ⟨p0.toArray⟩) := h.row.2 0 (by simp)

theorem Kinds.tail {w : World} {g : Nat} {p0 : List UInt8} {ps : List (List UInt8)} {kk : Nat} {wr : World} (h : Kinds w g (p0 :: ps) kk wr) : FirstAt wr g 1 ps := fun p r e => by
  subst e
  exact h.row.2 1 (by simp)

theorem first_on {w w' : World} {g : Nat} {ps : List (List UInt8)} (h : FirstAt w g 1 ps) (hg : g < w.heap.size) (hb : Below w.heap.size w w') : FirstAt w' g 1 ps := fun p r e => by
  rw [hb.cell (p := ⟨g, 1, none⟩) hg]
  exact h p r e

set_option maxRecDepth 20000 in
set_option maxHeartbeats 4000000 in
theorem kind_brk (d : Nat) (ih : KindAll d) (s : ByteArray) (w : World) (a : Int) (hsm : s.size ≤ 1048576) (ha : a - 1 = d) (hd : d ≤ 1000) (ha0 : 0 < a) (hn : nameB s.data.toList = false) (hs : secretB s.data.toList = false) (hb : Brackets s) (p0 p1 : List UInt8) (qs : List (List UInt8))
    (hcut : cutGo 0 [] (s.extract 1 (s.size - 1)).data.toList = some (p0 :: p1 :: qs)) :
    Calls Tryz.prog 50 #[.string s, .int .i64 a] w (KindOut w (d + 1) s.data.toList) := by
  have HRES := hid (kind_res d s hn hs hb p0 p1 qs hcut)
  have HCUT := hid hcut
  have HA := hid ha
  have HN := hid hn
  have HS := hid hs
  have IH := hid ih
  have h0 : (a == 0) = false := by rw [beq_eq_false_iff_ne]; omega
  obtain ⟨h2, h40, h41⟩ := hb
  have ha1 : a ≤ 1001 := by omega
  have i2 : ¬ (s.size : Int) < 2 := by omega
  have hz : 0 < s.size := by omega
  have hl : s.size - 1 < s.size := by omega
  have b40 : ((s[0].toNat : Int) != 40) = false := by rw [h40]; rfl
  have b41 : ((s[s.size - 1].toNat : Int) != 41) = false := by rw [h41]; rfl
  have hms : (s.extract 1 (s.size - 1)).size ≤ 1048576 := by
    have : (s.extract 1 (s.size - 1)).size = min (s.size - 1) s.size - 1 := by simp
    omega
  clear hcut hn hs ha h40 h41 h2 ih
  obtain ⟨i0, hi0, hz0, hz1, hz2⟩ := info_parts strInfo
  go_enter Tryz.func50, Tryz.ntmps50
  go_wp2_with (first | (go_at_call 48; refine (sname_calls _ _).mono ?_; rintro e w' ⟨rfl, rfl⟩; rw [HN.out]) | (go_at_call 72; refine (ssecret_calls _ _).mono ?_; rintro e w' ⟨rfl, rfl⟩; rw [HS.out]) | (go_at_call 73; refine (cut_calls _ hms _).mono ?_; rintro e w2 ⟨sv, r, rfl, hb2, hor⟩; refine Hid.out ?_))
  refine hid ?_
  have hbel := ((Below.refl w.heap.size w).alloc (Nat.le_refl _) (.cells #[] 9)).trans (hb2.mono (by simp))
  have hnone := own_on (none_own w) hb2
  rcases hor with ⟨ps, hps, hr, hown⟩ | ⟨hnc, _⟩
  rotate_left
  · rw [HCUT.out] at hnc; cases hnc
  have hpe : ps = p0 :: p1 :: qs := by
    rw [HCUT.out] at hps
    exact (Option.some.inj hps).symm
  subst hpe
  obtain ⟨g, c, hsv, hrow, hgb, hnc⟩ := krow_of hown (by simp)
  subst hsv
  subst hr
  have hlen : (p0 :: p1 :: qs).length = qs.length + 2 := rfl
  have hqs : qs.length ≤ 1048576 := by
    have h1 := cutGo_len _ _ _ _ HCUT.out
    have h2 : (s.extract 1 (s.size - 1)).data.toList.length = (s.extract 1 (s.size - 1)).size := by simp
    rw [hlen] at h1
    omega
  rw [hlen] at hnc ⊢
  have HK := hid (show Kinds w g (p0 :: p1 :: qs) 3 w2 from ⟨by omega, by omega, fun j h3 h => by omega, hbel, hrow, hnone⟩)
  clear hps hown hb2 hnone hbel hrow hlen
  go_wp2_with fail
  go_loopw [9] (fun kd wr => ∃ kk, kd = .int .i64 (kk : Nat) ∧ Kinds w g (p0 :: p1 :: qs) kk wr) (fun kd _ => 8 - (RowKit.intOf kd).toNat)
  case atStart => exact ⟨3, rfl, HK.out⟩
  case round =>
    obtain ⟨kk, rfl, hks⟩ := hrel
    have HM := hid hks
    have hlow := hks.low
    have hhigh := hks.high
    clear hks
    by_cases h7 : kk ≤ 7
    · obtain ⟨r, hr⟩ : ∃ r : Bool, (p0 = wordOf kk ∧ shapeB kk (p1 :: qs) = true) ↔ r = false := ⟨!decide (p0 = wordOf kk ∧ shapeB kk (p1 :: qs) = true), by simp⟩
      have HR := hid hr
      clear hr
      go_wp2_with fail
      go_cut [74] from 58 to 98 (fun v wx => v = .bool r ∧ Below wr.heap.size wr wx)
      case first =>
        have hc0 := HM.out.first
        have hgs := HM.out.row.1
        have hta := HM.out.tail
        by_cases hq : (wordOf kk == p0) = true
        · have hr1 : (!shapeB kk (p1 :: qs)) = r := by
            have h1 : p0 = wordOf kk := (beq_iff_eq.1 hq).symm
            have h2 := HR.out
            cases hsb : shapeB kk (p1 :: qs) with
            | true => rw [hsb] at h2; rw [h2.1 ⟨h1, rfl⟩]; rfl
            | false =>
              cases hrr : r with
              | true => rfl
              | false => rw [hsb] at h2; exact absurd (h2.2 hrr).2 (by decide)
          have HR1 := hid hr1
          clear hr1
          go_region_with (first | (go_at_call 70; refine (sword_calls _ hlow h7 _).mono ?_; rintro e w5 ⟨rfl, rfl⟩) | (go_at_call 74; refine (shape_calls kk hlow h7 (p1 :: qs) _ g 1 _ (first_on hta hgs (by first | exact Below.refl _ _ | exact (Below.refl _ _).drew | exact (Below.refl _ _).alloc (Nat.le_refl _) _ | exact ((Below.refl _ _).alloc (Nat.le_refl _) _).drew | exact (Below.refl _ _).drew.alloc (Nat.le_refl _) _))).mono ?_; rintro e w6 ⟨rfl, rfl⟩))
          all_goals
            go_wp2_with fail
            go_meet
            exact ⟨by rw [← HR1.out], (by first | exact Below.refl _ _ | exact (Below.refl _ _).drew | exact (Below.refl _ _).alloc (Nat.le_refl _) _ | exact ((Below.refl _ _).alloc (Nat.le_refl _) _).drew | exact (Below.refl _ _).drew.alloc (Nat.le_refl _) _)⟩
        · have hq : (wordOf kk == p0) = false := by simpa using hq
          have hr1 : true = r := by
            have h2 := HR.out
            cases hrr : r with
            | true => rfl
            | false =>
              have h1 := (h2.2 hrr).1
              rw [h1, beq_self_eq_true] at hq
              cases hq
          have HR1 := hid hr1
          clear hr1
          first | (go_region_with (first | (go_at_call 70; refine (sword_calls _ hlow h7 _).mono ?_; rintro e w5 ⟨rfl, rfl⟩) | (go_at_call 74; refine (shape_calls kk hlow h7 (p1 :: qs) _ g 1 _ (first_on hta hgs (by first | exact Below.refl _ _ | exact (Below.refl _ _).drew | exact (Below.refl _ _).alloc (Nat.le_refl _) _ | exact ((Below.refl _ _).alloc (Nat.le_refl _) _).drew | exact (Below.refl _ _).drew.alloc (Nat.le_refl _) _))).mono ?_; rintro e w6 ⟨rfl, rfl⟩))) | fail
          all_goals
            go_wp2_with fail
            go_meet
            exact ⟨by rw [← HR1.out], (by first | exact Below.refl _ _ | exact (Below.refl _ _).drew | exact (Below.refl _ _).alloc (Nat.le_refl _) _ | exact ((Below.refl _ _).alloc (Nat.le_refl _) _).drew | exact (Below.refl _ _).drew.alloc (Nat.le_refl _) _)⟩
      case rest =>
        obtain ⟨rfl, hbx⟩ := hcut
        have HM2 := hid (HM.out.on hbx)
        clear hbx
        cases hrr : r with
        | true =>
          subst hrr
          have HN := hid (HM2.out.next h7 (fun h => by have := HR.out.1 h; cases this))
          go_wp2_with fail
          go_roundw
          case rel => exact ⟨kk + 1, by go_num, HN.out⟩
          case measure => simp [RowKit.intOf]; omega
        | false =>
          subst hrr
          obtain ⟨hw, hsh⟩ := HR.out.2 rfl
          have HRS := hid (show kindS (d + 1) s.data.toList = if (p1 :: qs).all (fun x => (kindS d x).1 != 0) = true then (kk, p1 :: qs) else (0, []) by
            rw [HRES.out, hw, kindOfW_word hlow h7]
            by_cases hall : (p1 :: qs).all (fun x => (kindS d x).1 != 0) = true
            · rw [if_pos ⟨by omega, hsh, hall⟩, if_pos hall]
            · rw [if_neg (fun h => hall h.2.2), if_neg hall])
          clear hw hsh
          go_wp2_with fail
          go_loopw [10] (fun iv wq => ∃ j : Nat, 1 ≤ j ∧ j ≤ qs.length + 2 ∧ iv = .int .i64 (j : Nat) ∧ (∀ t x, 1 ≤ t → t < j → (p0 :: p1 :: qs)[t]? = some x → (kindS d x).1 ≠ 0) ∧ Kinds w g (p0 :: p1 :: qs) kk wq) (fun iv _ => qs.length + 2 - (RowKit.intOf iv).toNat)
          case atStart => exact ⟨1, Nat.le_refl _, by omega, rfl, fun t x h1 h2 => by omega, HM2.out⟩
          case round =>
            obtain ⟨j, hj1, hjn, rfl, hpast, hkw⟩ := hrel
            have HP := hid hpast
            have HW := hid hkw
            clear hpast hkw
            by_cases hlt : j < qs.length + 2
            · obtain ⟨x, hx⟩ : ∃ x, (p0 :: p1 :: qs)[j]? = some x := ⟨(p0 :: p1 :: qs)[j], List.getElem?_eq_getElem (by simp; omega)⟩
              obtain ⟨q, hq⟩ : ∃ q : ByteArray, q = ⟨x.toArray⟩ := ⟨_, rfl⟩
              have hql : q.data.toList = x := by rw [hq]
              have hcell : wr.cell? ⟨g, j, none⟩ = some (.string q) := by
                have h1 := HW.out.row.2 j (by simp; omega)
                rw [List.getElem?_eq_getElem (by simp; omega)] at hx
                rw [Option.some.inj hx] at h1
                rw [hq]
                exact h1
              have hqs2 : q.size ≤ 1048576 := by
                have h1 := glue_mem _ x (List.mem_of_getElem? hx)
                have h2 := (cutGo_glue _ _ _ _ HCUT.out).2
                rw [List.nil_append] at h2
                rw [← h2] at h1
                have h3 : (s.extract 1 (s.size - 1)).data.toList.length = (s.extract 1 (s.size - 1)).size := by simp
                have h4 : q.size = x.length := by rw [← hql]; simp
                omega
              have HX := hid hx
              have HQL := hid hql
              have hgs := HW.out.row.1
              clear hx hq hql
              go_wp2_with (go_at_call 50; refine (IH.out q _ _ HA.out hqs2).mono ?_; rintro e w7 ⟨sv7, rfl, hb7, _⟩; refine Hid.out ?_)
              refine hid ?_
              rw [HQL.out]
              have HW7 := hid (HW.out.on hb7)
              clear hb7 hcell
              generalize hkd : (kindS d x).1 = kd
              have HKD := hid hkd
              clear hkd
              by_cases hk0 : kd = 0
              · have hkb : ((kd : Int) == 0) = true := by rw [beq_iff_eq]; omega
                have hno : kindS (d + 1) s.data.toList = (0, []) := by
                  rw [HRS.out, if_neg]
                  intro hall
                  obtain ⟨t, rfl⟩ : ∃ t, j = t + 1 := ⟨j - 1, by omega⟩
                  have hm : x ∈ p1 :: qs := List.mem_of_getElem? (i := t) (by have := HX.out; rwa [List.getElem?_cons_succ] at this)
                  have := List.all_eq_true.1 hall x hm
                  rw [HKD.out, hk0] at this
                  cases this
                have HNO := hid hno
                clear hno
                subst hk0
                go_wp2
                go_ret2
                exact KindOut.empty HNO.out HW7.out.below HW7.out.empty
              · have hkb : ((kd : Int) == 0) = false := by rw [beq_eq_false_iff_ne]; omega
                have HK0 := hid hk0
                clear hk0
                go_wp2
                go_roundw
                case rel =>
                  refine ⟨j + 1, by omega, by omega, by go_num, fun t y h1 h2 hy => ?_, HW7.out⟩
                  by_cases he : t = j
                  · subst he
                    have := HX.out.symm.trans hy
                    rw [← Option.some.inj this, HKD.out]
                    exact HK0.out
                  · exact HP.out t y h1 (by omega) hy
                case measure => simp [RowKit.intOf]; omega
            · have hj : j = qs.length + 2 := by omega
              subst hj
              have hown : (wr.alloc (.cells #[] 9)).ownsRow w.heap.size 9 1 (.slice (some ⟨wr.heap.size, 0, none⟩) 0 0) 0 [] := World.ownsRow_made wr #[] 0 HW.out.below.size (Nat.zero_le _) rfl
              have hgl := HW.out.row.1
              have hszw := HW.out.below.size
              have hc1q : ∀ t u, (strs (p1 :: qs))[t]? = some u → (wr.alloc (.cells #[] 9)).cell? ((⟨g, 1, none⟩ : Addr).add t) = some u := by
                intro t u hu
                have hu' : ∃ x, (p1 :: qs)[t]? = some x ∧ .string ⟨x.toArray⟩ = u := by
                  unfold strs at hu
                  rw [List.getElem?_map] at hu
                  exact Option.map_eq_some_iff.1 hu
                obtain ⟨x, hx, rfl⟩ := hu'
                have hb := (Below.refl wr.heap.size wr).alloc (Nat.le_refl _) (.cells #[] 9)
                rw [show ((⟨g, 1, none⟩ : Addr).add t) = ⟨g, t + 1, none⟩ by simp [Addr.add, Nat.add_comm], hb.cell (p := ⟨g, t + 1, none⟩) hgl]
                obtain ⟨ht, hx⟩ := List.getElem?_eq_some_iff.1 hx
                have h1 := HW.out.row.2 (t + 1) (by simpa using ht)
                rw [h1, ← hx]
                rfl
              have hc2q : ∀ u ∈ strs (p1 :: qs), u.oneCell' = true := by
                intro u hu
                obtain ⟨x, _, rfl⟩ := List.mem_map.1 hu
                rfl
              have HC1 := hid hc1q
              have HC2 := hid hc2q
              clear hc1q hc2q
              go_wp2_with (at_builtin; refine wpList_append_own _ rfl _ _ 22 rfl w.heap.size 9 i0 _ 1 16 Tryz.underlying22 hi0 hz0 hz1 hz2 rfl (by decide) _ _ _ rfl hown ⟨g, 1, none⟩ (qs.length + 1) _ (strs (p1 :: qs)) rfl (by simp [strs]) HC1.out HC2.out ?c3 ?c4 ?c5 ?_)
              case c3 => unfold maxLen; omega
              case c4 => omega
              case c5 => simp; omega
              intro out' w1 hown' hgrow _
              have hbel : Below w.heap.size w w1 := ((HW.out.below.alloc hszw _).grown hgrow (by simp; omega) (fun g hg => (hown.lt g hg).1))
              have HB := hid hbel
              have HO := hid hown'
              have hres : kindS (d + 1) s.data.toList = (kk, p1 :: qs) := by
                rw [HRS.out, if_pos]
                rw [List.all_eq_true]
                intro x hx
                obtain ⟨t, ht⟩ := List.getElem?_of_mem hx
                have h1 : t + 1 < qs.length + 2 := by
                  have := (List.getElem?_eq_some_iff.1 ht).1
                  simp at this
                  omega
                have := HP.out (t + 1) x (by omega) h1 (by rw [List.getElem?_cons_succ]; exact ht)
                simpa using this
              have HE := hid hres
              clear hres hown' hgrow hown hbel
              go_wp2
              go_ret2
              refine ⟨out', by rw [HE.out]; rfl, HB.out, ?_⟩
              rw [HE.out]
              have := HO.out
              simpa using this
    · have hk8 : kk = 8 := by omega
      subst hk8
      have hno : kindS (d + 1) s.data.toList = (0, []) := by
        rw [HRES.out]
        by_cases hw : kindOfW p0 = 0
        · rw [if_neg (fun h => h.1 hw)]
        · obtain ⟨_, h3, h7, hwd⟩ := kindOfW_ne hw
          rw [if_neg (fun h => HM.out.past _ h3 (by omega) ⟨hwd, h.2.1⟩)]
      have HNO := hid hno
      clear hno
      go_wp2
      go_ret2
      exact KindOut.empty HNO.out HM.out.below HM.out.empty
end Go.Proofs.YtjaaplcgphlccaaGreatDoor

namespace Go.Proofs.YtjaaplcgphlccaaGreatDoor
open Go.RowKit
open Go.Lib (hid)

theorem inner_ne {s : ByteArray} (h : ¬ Brackets s) : inner s.data.toList = none := by
  cases hi : inner s.data.toList with
  | none => rfl
  | some m =>
    exfalso
    apply h
    have hl := inner_some.1 hi
    have hsz : s.data.toList.length = s.size := by simp
    rw [hl] at hsz
    simp only [List.length_cons, List.length_append, List.length_nil] at hsz
    have h0 : s.data.toList[0]? = some 40 := by rw [hl]; rfl
    have h1 : s.data.toList[s.size - 1]? = some 41 := by
      rw [hl, show s.size - 1 = m.length + 1 by omega, List.getElem?_cons_succ, List.getElem?_append_right (Nat.le_refl _), Nat.sub_self]
      rfl
    refine ⟨by omega, ?_, ?_⟩
    · obtain ⟨_, e⟩ := List.getElem?_eq_some_iff.1 h0
      exact e
    · obtain ⟨_, e⟩ := List.getElem?_eq_some_iff.1 h1
      exact e

theorem kind_all : ∀ d, d ≤ 1000 → KindAll d := by
  intro d
  induction d with
  | zero =>
    intro _ s w a ha hs
    cases hn : nameB s.data.toList with
    | true => exact kind_name 0 s w a hn
    | false =>
      cases hx : secretB s.data.toList with
      | true => exact kind_secret 0 s w a hx
      | false => exact kind_no 0 s w a hs ha hn hx (Or.inl rfl) (by simp [kindS, hn, hx])
  | succ d ih =>
    intro hd s w a ha hs
    cases hn : nameB s.data.toList with
    | true => exact kind_name _ s w a hn
    | false =>
      cases hx : secretB s.data.toList with
      | true => exact kind_secret _ s w a hx
      | false =>
        by_cases hb : Brackets s
        · have hi := inner_bytes s hb
          cases hc : cutGo 0 [] (s.extract 1 (s.size - 1)).data.toList with
          | none =>
            refine kind_cutno _ s w a hs (by omega) hn hx hb ?_ (fun ps h => by rw [hc] at h; cases h)
            simp only [kindS, hn, hx, Bool.false_eq_true, if_false]
            unfold brk
            rw [hi, Option.bind_some, hc]
          | some ps =>
            match ps, hc with
            | [], hc =>
              refine kind_cutno _ s w a hs (by omega) hn hx hb ?_ (fun ps h => by rw [hc] at h; rw [← Option.some.inj h]; simp)
              simp only [kindS, hn, hx, Bool.false_eq_true, if_false]
              unfold brk
              rw [hi, Option.bind_some, hc]
            | [p0], hc =>
              refine kind_cutno _ s w a hs (by omega) hn hx hb ?_ (fun ps h => by rw [hc] at h; rw [← Option.some.inj h]; simp)
              simp only [kindS, hn, hx, Bool.false_eq_true, if_false]
              unfold brk
              rw [hi, Option.bind_some, hc]
            | p0 :: p1 :: qs, hc =>
              exact kind_brk d (ih (by omega)) s w a hs (by omega) (by omega) (by omega) hn hx hb p0 p1 qs hc
        · refine kind_no _ s w a hs ha hn hx (Or.inr hb) ?_
          simp only [kindS, hn, hx, Bool.false_eq_true, if_false]
          unfold brk
          rw [inner_ne hb]
          rfl
end Go.Proofs.YtjaaplcgphlccaaGreatDoor
