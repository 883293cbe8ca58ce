/- The small helpers of the laws on slices of texts: the text of a mark, two rows of texts held against each other, and a row that bears marks. -/
import Derived.Test.YtjaaplcgphlccaaGreatDoorBase
import Derived.Test.YtjaaplcgphlccaaGreatDoorPackSpec
import Derived.Test.YtjaaplcgphlccaaGreatDoorPackImpl
import Derived.Lib.ItoaNum
namespace Go.Proofs.YtjaaplcgphlccaaGreatDoor
open Go.RowKit
open Go.Lib (hid)

theorem cat_bytes (a b : List UInt8) : (⟨a.toArray⟩ : ByteArray) ++ ⟨b.toArray⟩ = ⟨(a ++ b).toArray⟩ := by
  apply ByteArray.ext
  simp

/-- The digits of a number, none for 0. -/
def dd (m : Nat) : List UInt8 := if m = 0 then [] else Lib.decDigits m

theorem dd_zero : dd 0 = [] := by simp [dd]

theorem dd_step (m : Nat) (h : 0 < m) : dd m = dd (m / 10) ++ [UInt8.ofNat (48 + m % 10)] := by
  unfold dd
  rw [if_neg (by omega), Lib.decDigits]
  by_cases h10 : m < 10
  · rw [dif_pos h10, if_pos (by omega), Nat.mod_eq_of_lt h10]; rfl
  · rw [dif_neg h10, if_neg (by omega)]

theorem dd_len (n : Nat) : (dd n).length ≤ n := by
  induction n using Nat.strongRecOn with
  | ind n ih =>
    by_cases h : n = 0
    · subst h; rw [dd_zero]; simp
    · have := ih (n / 10) (by omega)
      rw [dd_step n (by omega)]
      simp
      omega

theorem dd_round (n m : Nat) (s : List UInt8) (h : 0 < m) (hs : dd m ++ s = dd n) : dd (m / 10) ++ (UInt8.ofNat (48 + m % 10) :: s) = dd n := by
  rw [← hs, dd_step m h, List.append_assoc]; rfl

/-- The text of a mark. -/
def mtext (k : Nat) : List UInt8 := 109 :: dd k

/-- The marks from k on, so many. -/
def marks (k n : Nat) : List (List UInt8) := (List.range n).map fun i => mtext (k + i)

theorem marks_len (k n : Nat) : (marks k n).length = n := by simp [marks]

theorem marks_at (k n i : Nat) (h : i < n) : (marks k n)[i]? = some (mtext (k + i)) := by simp [marks, h]

set_option maxHeartbeats 1000000 in
theorem mark_text (n : Nat) (a : Int) (ha : a = n) (h0 : 0 < n) (h1 : n ≤ 1000000000) (w : World) :
    Calls Tryz.prog 57 #[.int .i64 a] w fun e w' => e = .returned (.string ⟨(mtext n).toArray⟩) ∧ Below w.heap.size w w' := by
  subst ha
  have hb : ¬ (n : Int) ≤ 0 := by omega
  go_enter Tryz.func57, Tryz.ntmps57
  go_wp2
  go_loopw [0, 3] (fun a o wr => ∃ m : Nat, ∃ s : List UInt8, m ≤ n ∧ a = .int .i64 m ∧ o = .string ⟨s.toArray⟩ ∧ dd m ++ s = dd n ∧ Below w.heap.size w wr) (fun a _ _ => (RowKit.intOf a).toNat)
  case atStart => exact ⟨n, [], Nat.le_refl _, rfl, rfl, by simp, Below.refl _ _⟩
  case round =>
    obtain ⟨m, s, hm, rfl, rfl, hs, hnx⟩ := hrel
    have hlen : s.length ≤ 1000000000 := by
      have := dd_len n
      have := congrArg List.length hs
      simp at this
      omega
    by_cases hlt : 0 < m
    · have HS := hid (dd_round n m s hlt hs)
      clear hs
      have hd : m % 10 < 10 := Nat.mod_lt _ (by omega)
      have hcv : ((UInt8.ofNat (48 + m % 10)).toNat : Int) = 48 + (m : Int) % 10 := by
        rw [UInt8.toNat_ofNat_of_lt' (by show _ < 256; omega)]; omega
      have hback := run_convert_bytes_back (P := Tryz.prog) (wr.alloc (.cells #[.int .u8 (48 + (m : Int) % 10)] 5)) 33 9 5 ⟨wr.heap.size, 0, none⟩ 1 [UInt8.ofNat (48 + m % 10)] Tryz.underlying33 Tryz.underlying5 Tryz.underlying9 (fun j hj => by
        have : j = 0 := by simpa using hj
        subst this
        show _ = some (Value.int .u8 ((UInt8.ofNat (48 + m % 10)).toNat : Int))
        rw [hcv]
        simp [Addr.add])
      clear hcv hd
      simp only [List.length_cons, List.length_nil, Nat.zero_add] at hback
      go_wp2
      go_roundw
      case rel =>
        refine ⟨m / 10, UInt8.ofNat (48 + m % 10) :: s, by omega, by go_num, ?_, HS.out, (hnx.alloc hnx.size _)⟩
        simpa using cat_bytes [UInt8.ofNat (48 + m % 10)] s
      case measure => simp [RowKit.intOf]; omega
    · have hm0 : m = 0 := by omega
      subst hm0
      have hs' : s = dd n := by rw [← hs, dd_zero]; rfl
      clear hs
      have HS := hid hs'
      clear hs'
      go_wp2
      go_ret
      exact ⟨by rw [HS.out]; rfl, hnx⟩

/-- A row of texts. -/
def TextsAt (w : World) (sv : Value) (ps : List (List UInt8)) : Prop :=
  ∃ p c, sv = .slice p ps.length c ∧ (ps ≠ [] → ∃ g, p = some ⟨g, 0, none⟩ ∧ KRow w g ps)

theorem TextsAt.on {w w' : World} {sv : Value} {ps : List (List UInt8)} (h : TextsAt w sv ps) (hb : Below w.heap.size w w') : TextsAt w' sv ps := by
  obtain ⟨p, c, rfl, hp⟩ := h
  refine ⟨p, c, rfl, fun hne => ?_⟩
  obtain ⟨g, rfl, hk⟩ := hp hne
  exact ⟨g, rfl, hk.on hb⟩

theorem texts_of {w : World} {base : Nat} {sv : Value} {ps : List (List UInt8)} (h : w.ownsRow base 9 1 sv ps.length (strs ps)) : TextsAt w sv ps := by
  by_cases hn : 0 < ps.length
  · obtain ⟨g, c, rfl, hk, _⟩ := krow_of h hn
    exact ⟨_, c, rfl, fun _ => ⟨g, rfl, hk⟩⟩
  · have hz : ps = [] := List.eq_nil_of_length_eq_zero (by omega)
    subst hz
    rcases h.2 with ⟨hv, _⟩ | ⟨g, cap, cur, hv, _⟩
    · exact ⟨none, 0, hv, fun h => absurd rfl h⟩
    · exact ⟨_, cap, hv, fun h => absurd rfl h⟩

theorem eq_same (ps : List (List UInt8)) (hn : ps.length ≤ 1000000000) (a b : Value) (w : World) (ha : TextsAt w a ps) (hb : TextsAt w b ps) :
    Calls Tryz.prog 30 #[a, b] w fun e w' => e = .returned (.bool true) ∧ Below w.heap.size w w' := by
  obtain ⟨p, c, rfl, hp⟩ := ha
  obtain ⟨q, e, rfl, hq⟩ := hb
  have HP := hid hp
  have HQ := hid hq
  clear hp hq
  go_enter Tryz.func30, Tryz.ntmps30
  go_wp2
  go_loopw [5] (fun iv wr => ∃ i : Nat, i ≤ ps.length ∧ iv = .int .i64 i ∧ Below w.heap.size w wr) (fun iv _ => ps.length - (RowKit.intOf iv).toNat)
  case atStart => exact ⟨0, Nat.zero_le _, rfl, Below.refl _ _⟩
  case round =>
    obtain ⟨i, hi, rfl, hbel⟩ := hrel
    by_cases hlt : i < ps.length
    · have hne : ps ≠ [] := fun h => by rw [h] at hlt; cases hlt
      obtain ⟨g, rfl, hk⟩ := HP.out hne
      obtain ⟨g2, rfl, hk2⟩ := HQ.out hne
      have hc1 := (hk.on hbel).2 i hlt
      have hc2 := (hk2.on hbel).2 i hlt
      clear hk hk2
      obtain ⟨x, hx⟩ : ∃ x : ByteArray, x = ⟨ps[i].toArray⟩ := ⟨_, rfl⟩
      rw [← hx] at hc1 hc2
      go_wp2
      go_quiet (fail)
      go_wp2
      go_roundw
      case rel => exact ⟨i + 1, by omega, by go_num, drewN_below hbel _⟩
      case measure => simp [RowKit.intOf]; omega
    · have hie : i = ps.length := by omega
      subst hie
      go_wp2
      go_ret
      exact ⟨rfl, hbel⟩

/-- A row that bears marks still bears them. -/
theorem held_calls (k n : Nat) (h0 : 0 < k) (hn : k + n ≤ 1000000000) (a : Value) (w : World) (ha : TextsAt w a (marks k n)) :
    Calls Tryz.prog 32 #[a, .int .i64 k] w fun e w' => e = .returned (.int .i64 ((k + n : Nat) : Int)) ∧ Below w.heap.size w w' := by
  obtain ⟨p, c, rfl, hp⟩ := ha
  rw [marks_len]
  have HP := hid hp
  clear hp
  go_enter Tryz.func32, Tryz.ntmps32
  go_wp2
  go_loopw [1, 5] (fun kv iv wr => ∃ i : Nat, i ≤ n ∧ iv = .int .i64 i ∧ kv = .int .i64 ((k + i : Nat) : Int) ∧ Below w.heap.size w wr) (fun _ iv _ => n - (RowKit.intOf iv).toNat)
  case atStart => exact ⟨0, Nat.zero_le _, rfl, rfl, Below.refl _ _⟩
  case round =>
    obtain ⟨i, hi, rfl, rfl, hbel⟩ := hrel
    by_cases hlt : i < n
    · have hne : marks k n ≠ [] := fun h => by
        have := marks_len k n
        rw [h] at this
        simp at this
        omega
      obtain ⟨g, rfl, hk⟩ := HP.out hne
      have hc1 := (hk.on hbel).2 i (by rw [marks_len]; exact hlt)
      rw [(List.getElem?_eq_some_iff.1 (marks_at k n i hlt)).2] at hc1
      have hgl := Nat.lt_of_lt_of_le hk.1 hbel.size
      clear hk
      go_wp2
      go_region_with (go_at_call 57; refine (mark_text (k + i) _ (by omega) (by omega) (by omega) _).mono ?_; rintro e w5 ⟨rfl, hb5⟩; have hc5 := hb5.cell (p := ⟨g, i, none⟩) (by simp; omega))
      all_goals
        have HB := hid ((Below.drew hbel).trans (hb5.mono (by simpa using hbel.size)))
        clear hb5
        go_wp2
        go_roundw
        case rel => exact ⟨i + 1, by omega, by go_num, by go_num, HB.out⟩
        case measure => simp [RowKit.intOf]; omega
    · have hie : i = n := by omega
      subst hie
      go_wp2
      go_ret
      exact ⟨rfl, hbel⟩

/-! A row that is marked. -/

theorem grown_drewN {u v : World} {row : Option Nat} (h : u.grownBy v row) (n : Nat) : u.grownBy (v.drewN n) row := ⟨h.os, h.tape, h.output, h.size, h.block⟩

theorem strs_len (ps : List (List UInt8)) : (strs ps).length = ps.length := by simp [strs]

/-- The row while it is being marked. -/
def mixed (ps : List (List UInt8)) (k i : Nat) : List Value := strs (marks k i ++ ps.drop i)

theorem mixed_zero (ps : List (List UInt8)) (k : Nat) : mixed ps k 0 = strs ps := by simp [mixed, marks]

theorem mixed_all (ps : List (List UInt8)) (k n : Nat) (h : ps.length = n) : mixed ps k n = strs (marks k n) := by
  unfold mixed
  rw [List.drop_of_length_le (by omega), List.append_nil]

theorem mixed_set (ps : List (List UInt8)) (k i : Nat) (h : i < ps.length) : (mixed ps k i).set i (.string ⟨(mtext (k + i)).toArray⟩) = mixed ps k (i + 1) := by
  apply List.ext_getElem?
  intro j
  unfold mixed strs
  have hm : ∀ m, (marks k m).length = m := fun m => marks_len k m
  rw [List.getElem?_set]
  simp only [List.length_map, List.length_append, hm, List.length_drop]
  by_cases hj : i = j
  · subst hj
    rw [if_pos rfl, if_pos (by omega), List.getElem?_map, List.getElem?_append_left (by rw [hm]; omega), marks_at k _ _ (by omega)]
    rfl
  · rw [if_neg hj]
    simp only [List.getElem?_map]
    by_cases hlt : j < i
    · rw [List.getElem?_append_left (by rw [hm]; omega), List.getElem?_append_left (by rw [hm]; omega), marks_at k _ _ hlt, marks_at k _ _ (by omega)]
    · rw [List.getElem?_append_right (by rw [hm]; omega), List.getElem?_append_right (by rw [hm]; omega), hm, hm, List.getElem?_drop, List.getElem?_drop]
      congr 2
      omega

theorem mixed_at (ps : List (List UInt8)) (k i : Nat) (h : i < ps.length) : ∃ v, (mixed ps k i)[i]? = some v := by
  have : i < (mixed ps k i).length := by
    unfold mixed
    rw [strs_len, List.length_append, marks_len, List.length_drop]
    omega
  exact ⟨_, List.getElem?_eq_getElem this⟩

set_option maxHeartbeats 1000000 in
theorem mark_calls (ps : List (List UInt8)) (k : Nat) (h0 : 0 < k) (hn : k + ps.length ≤ 1000000000) (base : Nat) (a : Value) (w : World) (ha : w.ownsRow base 9 1 a ps.length (strs ps)) :
    Calls Tryz.prog 31 #[a, .int .i64 k] w fun e w' => e = .returned (.int .i64 ((k + ps.length : Nat) : Int)) ∧ w.grownBy w' a.ownBlock ∧ w'.ownsRow base 9 1 a ps.length (strs (marks k ps.length)) := by
  by_cases hz : ps.length = 0
  · obtain ⟨p, c, rfl⟩ := row_shape ha
    have HA := hid ha
    clear ha
    go_enter Tryz.func31, Tryz.ntmps31
    go_wp2
    go_loopw [1, 5] (fun kv iv wr => iv = .int .i64 0 ∧ kv = .int .i64 k ∧ wr = w) (fun _ iv _ => 0)
    case atStart => exact ⟨rfl, rfl, rfl⟩
    case round =>
      obtain ⟨rfl, rfl, rfl⟩ := hrel
      go_wp2
      go_ret
      refine ⟨by rw [hz]; rfl, grown_refl _ _, ?_⟩
      have := HA.out
      rw [hz] at this ⊢
      have hp : ps = [] := List.eq_nil_of_length_eq_zero hz
      subst hp
      exact this
  · obtain ⟨g, c, rfl, _, hbg, _⟩ := krow_of ha (by omega)
    have HA := hid ha
    clear ha
    have hgl0 : g < w.heap.size := (HA.out.lt g rfl).2
    go_enter Tryz.func31, Tryz.ntmps31
    go_wp2
    go_loopw [1, 5] (fun kv iv wr => ∃ i : Nat, i ≤ ps.length ∧ iv = .int .i64 i ∧ kv = .int .i64 ((k + i : Nat) : Int) ∧ w.grownBy wr (some g) ∧ wr.ownsRow base 9 1 (.slice (some ⟨g, 0, none⟩) ps.length c) ps.length (mixed ps k i)) (fun _ iv _ => ps.length - (RowKit.intOf iv).toNat)
    case atStart => exact ⟨0, Nat.zero_le _, rfl, rfl, grown_refl _ _, by rw [mixed_zero]; exact HA.out⟩
    case round =>
      obtain ⟨i, hi, rfl, rfl, hgr, hown⟩ := hrel
      by_cases hlt : i < ps.length
      · obtain ⟨v, hv⟩ := mixed_at ps k i hlt
        have hc1 := hown.cellAt i (by omega)
        rw [hv] at hc1
        have hf1 := hown.frozenAt i
        have hgl := Nat.lt_of_lt_of_le hgl0 hgr.size
        have HO := hid hown
        clear hown hv
        go_wp2_with (go_at_call 57; refine (mark_text (k + i) _ (by omega) (by omega) (by omega) _).mono ?_; rintro e w5 ⟨rfl, hb5⟩; have hc5 := hb5.cell (p := ⟨g, i, none⟩) (by simp; omega); have hf5 := hb5.frozen (p := ⟨g, i, none⟩) (by simp; omega))
        have HW := hid (grown_trans (grown_trans hgr (grown_below hb5)) ((own_below HO.out hb5).stored i (.string ⟨(mtext (k + i)).toArray⟩)).2)
        have HX := hid ((own_below HO.out hb5).stored i (.string ⟨(mtext (k + i)).toArray⟩)).1
        clear hb5 hc5 hf5
        go_roundw
        case rel => exact ⟨i + 1, by omega, by go_num, by go_num, HW.out, by rw [← mixed_set ps k i hlt]; exact HX.out⟩
        case measure => simp [RowKit.intOf]; omega
      · have hie : i = ps.length := by omega
        subst hie
        have HO := hid hown
        clear hown
        go_wp2
        go_ret
        exact ⟨rfl, hgr, by rw [← mixed_all ps k _ rfl]; exact HO.out⟩

/-- One text more on a slice of texts that the call has made. -/
theorem wp_append_str {w : World} {ops : Array Oper} {rest : List Oper} {o : Oper} {a : Act} {Q : Exit → Act → World → Prop} (hgd : o.guard = none) (s x : Operand)
    (ho : o.op = .call { callee := .builtin .append, args := #[s, x], argTypes := #[22, 22] }) (base : Nat)
    (v : Value) (n : Nat) (xs : List Value) (hs : a.eval s = v) (hown : w.ownsRow base 9 1 v n xs)
    (ad : Addr) (c : Nat) (y : ByteArray) (hx : a.eval x = .slice (some ad) 1 c) (hcell : w.cell? ad = some (.string y)) (hn : n ≤ 1000000000) (hbase : base ≤ w.heap.size)
    (h : ∀ v' w', w'.ownsRow base 9 1 v' (n + 1) (xs ++ [.string y]) → w.grownBy w' v.ownBlock → (v'.ownBlock = v.ownBlock ∨ v'.ownBlock = some w.heap.size) → wpList Tryz.prog ops Q rest (a.put o.dst v') w') : wpList Tryz.prog ops Q (o :: rest) a w := by
  obtain ⟨i0, hi0, hz0, hz1, hz2⟩ := info_parts strInfo
  refine wp_append_where w hgd s x 22 ho base 9 i0 _ 1 16 Tryz.underlying22 hi0 hz0 hz1 hz2 rfl (by decide) v n xs hs hown ad c [.string y] hx rfl ?_ ?_ ?_ ?_ hbase h
  · intro j u hj
    match j, hj with
    | 0, hj =>
      simp at hj; subst hj
      have : ad.add 0 = ad := by obtain ⟨b, of, sp⟩ := ad; unfold Addr.add; split <;> simp_all
      rw [this]
      exact hcell
  · intro u hu; simp at hu; subst hu; rfl
  · unfold maxLen; omega
  · omega
end Go.Proofs.YtjaaplcgphlccaaGreatDoor
