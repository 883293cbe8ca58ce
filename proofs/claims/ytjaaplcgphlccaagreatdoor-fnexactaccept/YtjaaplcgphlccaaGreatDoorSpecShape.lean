/- The specification's secrets, words of kinds and shapes of parts: each answers its plain twin. -/
import Derived.Test.YtjaaplcgphlccaaGreatDoorSpecTerm
namespace Go.Proofs.YtjaaplcgphlccaaGreatDoor
open Go.RowKit
open Go.Lib (hid)

theorem tail_bytes (s : ByteArray) : (s.extract 1 s.size).data.toList = s.data.toList.tail := by
  rw [Lib.extract_data, List.drop_one]
  exact List.take_of_length_le (by simp)

theorem ssecret_calls (s : ByteArray) (w : World) :
    Calls Tryz.prog 72 #[.string s] w fun e w' => e = .returned (.bool (secretB s.data.toList)) ∧ w' = w := by
  have hsz : s.data.toList.length = s.size := by simp
  by_cases h1 : 1 < s.size
  · have h0 : 0 < s.size := by omega
    have i1 : (1 : Int) < s.size := by omega
    obtain ⟨c, r, hcr⟩ : ∃ c r, s.data.toList = c :: r := by
      cases hl : s.data.toList with
      | nil => rw [hl] at hsz; simp at hsz; omega
      | cons c r => exact ⟨c, r, rfl⟩
    have hc0 : s[0] = c := by
      have := at_list s 0 h0
      rw [hcr] at this
      exact (Option.some.inj this).symm
    by_cases h33 : c = 33
    · have hb : ((s[0].toNat : Int) == 33) = true := by rw [hc0, h33]; rfl
      have hres : secretB s.data.toList = nameB (s.extract 1 s.size).data.toList := by
        rw [tail_bytes, hcr, h33]
        simp [secretB]
      have HRes := hid hres
      clear hres hcr hc0 h33
      go_enter Tryz.func72, Tryz.ntmps72
      go_wp2_with (go_at_call 48; refine (sname_calls _ _).mono ?_; rintro e w' ⟨rfl, rfl⟩; rw [← HRes.out])
      go_ret
      exact ⟨rfl, rfl⟩
    · have hb : ((s[0].toNat : Int) == 33) = false := by
        rw [hc0, beq_eq_false_iff_ne]
        intro e
        exact h33 (UInt8.toNat_inj.1 (by have : c.toNat = 33 := by omega
                                         rw [this]; rfl))
      have hres : secretB s.data.toList = false := by rw [hcr]; simp [secretB, h33]
      have HRes := hid hres
      clear hres hcr hc0
      go_enter Tryz.func72, Tryz.ntmps72
      go_wp2
      go_ret
      exact ⟨by rw [HRes.out]; rfl, rfl⟩
  · have i1 : ¬ (1 : Int) < s.size := by omega
    have hres : secretB s.data.toList = false := by
      cases hl : s.data.toList with
      | nil => rfl
      | cons c r =>
        cases r with
        | nil => simp [secretB, nameB]
        | cons d r => rw [hl] at hsz; simp at hsz; omega
    have HRes := hid hres
    clear hres
    go_enter Tryz.func72, Tryz.ntmps72
    go_wp2
    go_ret
    exact ⟨by rw [HRes.out]; rfl, rfl⟩

theorem sword_calls (k : Nat) (h3 : 3 ≤ k) (h7 : k ≤ 7) (w : World) :
    Calls Tryz.prog 70 #[.int .i64 k] w fun e w' => e = .returned (.string ⟨(wordOf k).toArray⟩) ∧ w' = w.alloc (.cells #[.string ⟨#[112, 97, 105, 114]⟩, .string ⟨#[104, 97, 115, 104]⟩, .string ⟨#[115, 105, 103, 110]⟩, .string ⟨#[112, 117, 98]⟩, .string ⟨#[115, 101, 97, 108]⟩] 9) := by
  have hdec : decide ((3 : Int) ≤ (k : Int) ∧ (k : Int) ≤ 7) = true := decide_eq_true (by omega)
  match k, h3, h7 with
  | 3, _, _ =>
    go_enter Tryz.func70, Tryz.ntmps70
    go_wp2_with (go_at_call 67; refine (in_calls _ _).mono ?_; rintro e w' ⟨rfl, rfl⟩)
    go_ret
    exact ⟨rfl, rfl⟩
  | 4, _, _ =>
    go_enter Tryz.func70, Tryz.ntmps70
    go_wp2_with (go_at_call 67; refine (in_calls _ _).mono ?_; rintro e w' ⟨rfl, rfl⟩)
    go_ret
    exact ⟨rfl, rfl⟩
  | 5, _, _ =>
    go_enter Tryz.func70, Tryz.ntmps70
    go_wp2_with (go_at_call 67; refine (in_calls _ _).mono ?_; rintro e w' ⟨rfl, rfl⟩)
    go_ret
    exact ⟨rfl, rfl⟩
  | 6, _, _ =>
    go_enter Tryz.func70, Tryz.ntmps70
    go_wp2_with (go_at_call 67; refine (in_calls _ _).mono ?_; rintro e w' ⟨rfl, rfl⟩)
    go_ret
    exact ⟨rfl, rfl⟩
  | 7, _, _ =>
    go_enter Tryz.func70, Tryz.ntmps70
    go_wp2_with (go_at_call 67; refine (in_calls _ _).mono ?_; rintro e w' ⟨rfl, rfl⟩)
    go_ret
    exact ⟨rfl, rfl⟩

/-- The first part, where a shape looks at it. -/
def FirstAt (w : World) (g o : Nat) (ps : List (List UInt8)) : Prop := ∀ p r, ps = p :: r → w.cell? ⟨g, o, none⟩ = some (.string ⟨p.toArray⟩)

theorem shape_two (k : Nat) (hk : k = 3 ∨ k = 7) (n c g o : Nat) (w : World) :
    Calls Tryz.prog 74 #[.int .i64 k, .slice (some ⟨g, o, none⟩) n c] w fun e w' => e = .returned (.bool (decide ((n : Int) = 2))) ∧ w' = w := by
  rcases hk with rfl | rfl
  · go_enter Tryz.func74, Tryz.ntmps74
    go_wp2
    go_ret
    exact ⟨by rfl, rfl⟩
  · go_enter Tryz.func74, Tryz.ntmps74
    go_wp2
    go_ret
    exact ⟨by rfl, rfl⟩

theorem shape_hash (n c g o : Nat) (r : Bool) (hr : decide (1 ≤ n ∧ n ≤ 8) = r) (w : World) :
    Calls Tryz.prog 74 #[.int .i64 4, .slice (some ⟨g, o, none⟩) n c] w fun e w' => e = .returned (.bool r) ∧ w' = w := by
  by_cases h1 : 1 ≤ (n : Int)
  · by_cases h8 : (n : Int) ≤ 8
    · have hd := hid (hr.symm.trans (decide_eq_true (show 1 ≤ n ∧ n ≤ 8 by omega)))
      clear hr
      go_enter Tryz.func74, Tryz.ntmps74
      go_wp2
      go_ret
      exact ⟨by rw [hd.out]; rfl, rfl⟩
    · have hd := hid (hr.symm.trans (decide_eq_false (show ¬ (1 ≤ n ∧ n ≤ 8) by omega)))
      clear hr
      go_enter Tryz.func74, Tryz.ntmps74
      go_wp2
      go_ret
      exact ⟨by rw [hd.out]; rfl, rfl⟩
  · have hd := hid (hr.symm.trans (decide_eq_false (show ¬ (1 ≤ n ∧ n ≤ 8) by omega)))
    clear hr
    go_enter Tryz.func74, Tryz.ntmps74
    go_wp2
    go_ret
    exact ⟨by rw [hd.out]; rfl, rfl⟩

theorem shape_first_no (k m : Nat) (hk : k = 5 ∧ m = 2 ∨ k = 6 ∧ m = 1) (n c g o : Nat) (hn : n ≠ m) (w : World) :
    Calls Tryz.prog 74 #[.int .i64 k, .slice (some ⟨g, o, none⟩) n c] w fun e w' => e = .returned (.bool false) ∧ w' = w := by
  rcases hk with ⟨rfl, rfl⟩ | ⟨rfl, rfl⟩
  · have hb : ((n : Int) == 2) = false := by rw [beq_eq_false_iff_ne]; omega
    go_enter Tryz.func74, Tryz.ntmps74
    go_wp2
    go_ret
    exact ⟨rfl, rfl⟩
  · have hb : ((n : Int) == 1) = false := by rw [beq_eq_false_iff_ne]; omega
    go_enter Tryz.func74, Tryz.ntmps74
    go_wp2
    go_ret
    exact ⟨rfl, rfl⟩

theorem shape_first (k m : Nat) (hk : k = 5 ∧ m = 2 ∨ k = 6 ∧ m = 1) (c g o : Nat) (p : ByteArray) (w : World) (hp : w.cell? ⟨g, o, none⟩ = some (.string p)) :
    Calls Tryz.prog 74 #[.int .i64 k, .slice (some ⟨g, o, none⟩) m c] w fun e w' => e = .returned (.bool (secretB p.data.toList)) ∧ w' = w := by
  generalize hs : secretB p.data.toList = r
  have HS := hid hs
  clear hs
  rcases hk with ⟨rfl, rfl⟩ | ⟨rfl, rfl⟩
  · go_enter Tryz.func74, Tryz.ntmps74
    go_wp2_with (go_at_call 72; refine (ssecret_calls _ _).mono ?_; rintro e w' ⟨rfl, rfl⟩; rw [HS.out])
    go_ret
    exact ⟨rfl, rfl⟩
  · go_enter Tryz.func74, Tryz.ntmps74
    go_wp2_with (go_at_call 72; refine (ssecret_calls _ _).mono ?_; rintro e w' ⟨rfl, rfl⟩; rw [HS.out])
    go_ret
    exact ⟨rfl, rfl⟩

theorem shape_calls (k : Nat) (h3 : 3 ≤ k) (h7 : k ≤ 7) (ps : List (List UInt8)) (c g o : Nat) (w : World) (hf : FirstAt w g o ps) :
    Calls Tryz.prog 74 #[.int .i64 k, .slice (some ⟨g, o, none⟩) ps.length c] w fun e w' => e = .returned (.bool (shapeB k ps)) ∧ w' = w := by
  have first : ∀ m, (k = 5 ∧ m = 2 ∨ k = 6 ∧ m = 1) → leastOf k = m → mostOf k = m → firstOf k = true →
      Calls Tryz.prog 74 #[.int .i64 k, .slice (some ⟨g, o, none⟩) ps.length c] w fun e w' => e = .returned (.bool (shapeB k ps)) ∧ w' = w := by
    intro m hk h1 h2 h5
    by_cases hn : ps.length = m
    · cases hps : ps with
      | nil => rw [hps] at hn; simp at hn; rcases hk with ⟨_, h⟩ | ⟨_, h⟩ <;> omega
      | cons p r =>
        rw [← hps]
        have hc := hf p r hps
        have hb : shapeB k ps = secretB (⟨p.toArray⟩ : ByteArray).data.toList := by
          unfold shapeB
          rw [h1, h2, h5, hps]
          rw [hps] at hn
          simp only [List.headD_cons, Bool.not_true, Bool.false_or]
          rw [decide_eq_true (by omega)]
          rfl
        rw [hb, hn]
        exact shape_first k m hk c g o _ w hc
    · have hb : shapeB k ps = false := by
        unfold shapeB
        rw [h1, h2, decide_eq_false (by omega)]
        rfl
      rw [hb]
      exact shape_first_no k m hk _ c g o hn w
  have two : (k = 3 ∨ k = 7) → leastOf k = 2 → mostOf k = 2 → firstOf k = false →
      Calls Tryz.prog 74 #[.int .i64 k, .slice (some ⟨g, o, none⟩) ps.length c] w fun e w' => e = .returned (.bool (shapeB k ps)) ∧ w' = w := by
    intro hk h1 h2 h5
    have hb : shapeB k ps = decide ((ps.length : Int) = 2) := by
      unfold shapeB
      rw [h1, h2, h5]
      simp only [Bool.not_false, Bool.true_or, Bool.and_true]
      rw [Bool.eq_iff_iff, decide_eq_true_eq, decide_eq_true_eq]
      omega
    rw [hb]
    exact shape_two k hk _ c g o w
  match k, h3, h7 with
  | 3, _, _ => exact two (Or.inl rfl) rfl rfl rfl
  | 4, _, _ =>
    have hb : decide (1 ≤ ps.length ∧ ps.length ≤ 8) = shapeB 4 ps := by
      unfold shapeB
      simp [leastOf, mostOf, firstOf]
    exact shape_hash _ c g o _ hb w
  | 5, _, _ => exact first 2 (Or.inl ⟨rfl, rfl⟩) rfl rfl rfl
  | 6, _, _ => exact first 1 (Or.inr ⟨rfl, rfl⟩) rfl rfl rfl
  | 7, _, _ => exact two (Or.inr rfl) rfl rfl rfl
end Go.Proofs.YtjaaplcgphlccaaGreatDoor
