/- Numbers read back from their names, the specification's way. -/
import Derived.Test.YtgmgffbfpbkfmaaGreatDoorNumOne
import Derived.Lib.SmallJoins
namespace Go.Proofs.YtgmgffbfpbkfmaaGreatDoor.Num
open Go.RowKit Go.Sort
open Go.Lib (hid)

theorem digit_calls (c : Int) (w : World) :
    Calls Tryz.prog 102 #[.int .u8 c] w fun e w' => e = .returned (.bool (decide (48 ≤ c ∧ c ≤ 57))) ∧ w' = w := by
  by_cases h0 : 48 ≤ c
  · by_cases h1 : c ≤ 57
    · go_enter Tryz.func102, Tryz.ntmps102
      go_wp2
      go_ret
      exact ⟨by simp [h0, h1], rfl⟩
    · go_enter Tryz.func102, Tryz.ntmps102
      go_wp2
      go_ret
      exact ⟨by simp [h1], rfl⟩
  · go_enter Tryz.func102, Tryz.ntmps102
    go_wp2
    go_ret
    exact ⟨by simp; omega, rfl⟩

/-- What the digits behind the first sign spell, of the first k signs. -/
def spelt (s : ByteArray) (k : Nat) : Nat := fold 0 ((s.data.toList.take k).drop 1)

theorem spelt_one (s : ByteArray) (h : 0 < s.size) : spelt s 1 = 0 ∧ Digs ((s.data.toList.take 1).drop 1) := by
  have : (s.data.toList.take 1).drop 1 = [] := by
    apply List.drop_eq_nil_of_le
    simp
    omega
  unfold spelt
  rw [this]
  exact ⟨rfl, fun c hc => by cases hc⟩

theorem spelt_take (s : ByteArray) (k : Nat) (h1 : 1 ≤ k) (h : k < s.size) : (s.data.toList.take (k + 1)).drop 1 = (s.data.toList.take k).drop 1 ++ [s[k]] := by
  have hk : k < s.data.toList.length := by simpa using h
  rw [List.take_succ_eq_append_getElem hk, List.drop_append_of_le_length (by simp; omega)]
  rfl

theorem spelt_succ (s : ByteArray) (k : Nat) (h1 : 1 ≤ k) (h : k < s.size) : spelt s (k + 1) = spelt s k * 10 + (s[k].toNat - 48) := by
  unfold spelt
  rw [spelt_take s k h1 h, fold_snoc]

theorem digs_succ (s : ByteArray) (k : Nat) (h1 : 1 ≤ k) (h : k < s.size) (hd : Digs ((s.data.toList.take k).drop 1)) (hc : 48 ≤ s[k].toNat ∧ s[k].toNat ≤ 57) : Digs ((s.data.toList.take (k + 1)).drop 1) := by
  rw [spelt_take s k h1 h]
  intro c hm
  rcases List.mem_append.1 hm with hm | hm
  · exact hd c hm
  · rw [List.mem_singleton.1 hm]; exact hc

theorem spelt_lt (s : ByteArray) (k : Nat) (hk : k ≤ 11) (hd : Digs ((s.data.toList.take k).drop 1)) : spelt s k < 10000000000 := by
  have h := fold_lt _ hd
  have hl : ((s.data.toList.take k).drop 1).length ≤ 10 := by simp; omega
  have := Nat.pow_le_pow_right (show 0 < 10 by omega) hl
  unfold spelt
  omega

theorem name_eq (s : ByteArray) (k : Nat) (h : s.data.toList = nameOf k) : (((⟨#[110]⟩ : ByteArray) ++ ⟨(Lib.decDigits k).toArray⟩).toList == s.toList) = true := by
  rw [name_mk, Lib.toList_data, Lib.toList_data, beq_iff_eq, h]

theorem name_ne (s : ByteArray) (k : Nat) (h : s.data.toList ≠ nameOf k) : (((⟨#[110]⟩ : ByteArray) ++ ⟨(Lib.decDigits k).toArray⟩).toList == s.toList) = false := by
  rw [name_mk, Lib.toList_data, Lib.toList_data, beq_eq_false_iff_ne]
  exact fun e => h e.symm

theorem specNumberOf_no (s : ByteArray) (hn : ∀ k : Nat, k ≤ 1000000000 → s.data.toList ≠ nameOf k) (w : World) :
    Calls Tryz.prog 153 #[.string s] w fun e w' => e = .returned (.int .i64 (-1)) ∧ Below w.heap.size w w' := by
  by_cases h1 : s.size < 2
  · go_enter Tryz.func153, Tryz.ntmps153
    go_wp2
    go_ret
    exact ⟨rfl, Below.refl _ _⟩
  by_cases h2 : 11 < s.size
  · go_enter Tryz.func153, Tryz.ntmps153
    go_wp2
    go_ret
    exact ⟨rfl, Below.refl _ _⟩
  have h0 : 0 < s.size := by omega
  have i1 : ¬ (s.size : Int) < 2 := by omega
  have i2 : ¬ 11 < (s.size : Int) := by omega
  by_cases hc : s[0].toNat = 110
  · have hcb : ((s[0].toNat : Int) != 110) = false := by rw [hc]; rfl
    have HN := hid hn
    clear hn
    go_enter Tryz.func153, Tryz.ntmps153
    go_wp2
    go_loop [3, 4] (fun n i => ∃ k : Nat, 1 ≤ k ∧ k ≤ s.size ∧ i = .int .i64 k ∧ n = .int .i64 (spelt s k) ∧ Digs ((s.data.toList.take k).drop 1)) (fun _ i => s.size - (RowKit.intOf i).toNat)
    case atStart => exact ⟨1, Nat.le_refl _, by omega, rfl, by rw [(spelt_one s h0).1]; rfl, (spelt_one s h0).2⟩
    case round =>
      obtain ⟨k, hk1, hk, rfl, rfl, hd⟩ := hrel
      have hlt := spelt_lt s k (by omega) hd
      have HD := hid hd
      clear hd
      by_cases hks : k < s.size
      · by_cases hdg : 48 ≤ s[k].toNat ∧ s[k].toNat ≤ 57
        · have g1 : (48 : Int) ≤ s[k].toNat := by omega
          have g2 : (s[k].toNat : Int) ≤ 57 := by omega
          have hdec : decide ((48 : Int) ≤ s[k].toNat ∧ (s[k].toNat : Int) ≤ 57) = true := decide_eq_true ⟨g1, g2⟩
          have HS := hid (spelt_succ s k hk1 hks)
          have HG := hid hdg
          clear hdg
          go_wp2_with (go_at_call 102; refine (digit_calls _ _).mono ?_; rintro e w' ⟨rfl, rfl⟩; rw [hdec])
          go_round
          case rel => exact ⟨k + 1, by omega, by omega, by go_num, by rw [HS.out]; go_num, digs_succ s k hk1 hks HD.out HG.out⟩
          case measure => simp [RowKit.intOf]; omega
        · have hdec : decide ((48 : Int) ≤ s[k].toNat ∧ (s[k].toNat : Int) ≤ 57) = false := decide_eq_false (by omega)
          go_wp2_with (go_at_call 102; refine (digit_calls _ _).mono ?_; rintro e w' ⟨rfl, rfl⟩; rw [hdec])
          go_ret
          exact ⟨rfl, Below.refl _ _⟩
      · by_cases hN : spelt s k ≤ 1000000000
        · have hl : (Lib.decDigits (spelt s k)).length ≤ 10 := digits_len10 _ hN
          have hq : (((⟨#[110]⟩ : ByteArray) ++ ⟨(Lib.decDigits (spelt s k)).toArray⟩).toList == s.toList) = false := name_ne s _ (fun h => HN.out _ hN h)
          have i3 : ¬ 1000000000 < (spelt s k : Int) := by omega
          go_wp2_with (go_at_call 182; refine (l1Dec_calls _ hN _).mono ?_; rintro e w1 ⟨rfl, hb1⟩)
          go_ret
          exact ⟨rfl, hb1⟩
        · have hN' : ¬ (spelt s k : Int) ≤ 1000000000 := by omega
          go_wp2
          go_ret
          exact ⟨rfl, Below.refl _ _⟩
  · have hcb : ((s[0].toNat : Int) != 110) = true := by rw [bne_iff_ne]; omega
    go_enter Tryz.func153, Tryz.ntmps153
    go_wp2
    go_ret
    exact ⟨rfl, Below.refl _ _⟩

theorem specNumberOf_yes (k : Nat) (hk : k ≤ 1000000000) (s : ByteArray) (hs : s.data.toList = nameOf k) (w : World) :
    Calls Tryz.prog 153 #[.string s] w fun e w' => e = .returned (.int .i64 k) ∧ Below w.heap.size w w' := by
  have hsz : s.size = 1 + (Lib.decDigits k).length := by
    have := congrArg List.length hs
    simp [nameOf] at this
    omega
  have hl10 := digits_len10 k hk
  obtain ⟨hv, hD, hpos⟩ := digits_spell k
  have h0 : 0 < s.size := by omega
  have i1 : ¬ (s.size : Int) < 2 := by omega
  have i2 : ¬ 11 < (s.size : Int) := by omega
  have hc : s[0].toNat = 110 := by
    have : s.data.toList[0]? = some 110 := by rw [hs]; rfl
    have h2 : s.data.toList[0]? = some s[0] := by
      rw [List.getElem?_eq_getElem (by simpa using h0)]; rfl
    rw [h2] at this
    rw [Option.some.inj this]; rfl
  have hcb : ((s[0].toNat : Int) != 110) = false := by rw [hc]; rfl
  have hall : spelt s s.size = k := by
    unfold spelt
    rw [List.take_of_length_le (by simp), hs]
    exact hv
  have hdig : ∀ j, 1 ≤ j → ∀ (hj : j < s.size), 48 ≤ s[j].toNat ∧ s[j].toNat ≤ 57 := by
    intro j h1 hj
    refine hD _ ?_
    have h2 : s.data.toList[j]? = some s[j] := by
      rw [List.getElem?_eq_getElem (by simpa using hj)]; rfl
    rw [hs] at h2
    obtain ⟨i, rfl⟩ : ∃ i, j = i + 1 := ⟨j - 1, by omega⟩
    exact List.mem_of_getElem? h2
  have hq : (((⟨#[110]⟩ : ByteArray) ++ ⟨(Lib.decDigits k).toArray⟩).toList == s.toList) = true := name_eq s _ hs
  have HQ := hid hq
  have HA := hid hall
  have HG := hid hdig
  clear hq hall hdig hv hD hs hsz
  go_enter Tryz.func153, Tryz.ntmps153
  go_wp2
  go_loop [3, 4] (fun n i => ∃ j : Nat, 1 ≤ j ∧ j ≤ s.size ∧ i = .int .i64 j ∧ n = .int .i64 (spelt s j) ∧ Digs ((s.data.toList.take j).drop 1)) (fun _ i => s.size - (RowKit.intOf i).toNat)
  case atStart => exact ⟨1, Nat.le_refl _, by omega, rfl, by rw [(spelt_one s h0).1]; rfl, (spelt_one s h0).2⟩
  case round =>
    obtain ⟨j, hk1, hjs, rfl, rfl, hd⟩ := hrel
    have hlt := spelt_lt s j (by omega) hd
    have HD := hid hd
    clear hd
    by_cases hks : j < s.size
    · have hdg := HG.out j hk1 hks
      have g1 : (48 : Int) ≤ s[j].toNat := by omega
      have g2 : (s[j].toNat : Int) ≤ 57 := by omega
      have hdec : decide ((48 : Int) ≤ s[j].toNat ∧ (s[j].toNat : Int) ≤ 57) = true := decide_eq_true ⟨g1, g2⟩
      have HS := hid (spelt_succ s j hk1 hks)
      have HC := hid hdg
      clear hdg
      go_wp2_with (go_at_call 102; refine (digit_calls _ _).mono ?_; rintro e w' ⟨rfl, rfl⟩; rw [hdec])
      go_round
      case rel => exact ⟨j + 1, by omega, by omega, by go_num, by rw [HS.out]; go_num, digs_succ s j hk1 hks HD.out HC.out⟩
      case measure => simp [RowKit.intOf]; omega
    · have hj : j = s.size := by omega
      subst hj
      have hall := HA.out
      have hq := HQ.out
      rw [hall]
      have i3 : ¬ 1000000000 < (k : Int) := by omega
      go_wp2_with (go_at_call 182; refine (l1Dec_calls _ hk _).mono ?_; rintro e w1 ⟨rfl, hb1⟩)
      go_ret
      exact ⟨rfl, hb1⟩
end Go.Proofs.YtgmgffbfpbkfmaaGreatDoor.Num
