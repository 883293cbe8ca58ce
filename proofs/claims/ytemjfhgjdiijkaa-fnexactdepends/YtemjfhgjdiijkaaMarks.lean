/- The small helpers of the laws on slices of texts: the text of a mark, two rows of texts held against each other, and a row that bears marks. -/
import Derived.Test.YtemjfhgjdiijkaaBase
import Derived.Test.YtemjfhgjdiijkaaSpecKind
import Derived.Test.YtemjfhgjdiijkaaAppendWhere
import Derived.Lib.ItoaNum
namespace Go.Proofs.Ytemjfhgjdiijkaa
open Go.RowKit
open Go.Lib (hid)

theorem cat_bytes (a b : List UInt8) : (⟨a.toArray⟩ : ByteArray) ++ ⟨b.toArray⟩ = ⟨(a ++ b).toArray⟩ := by
  apply ByteArray.ext
  simp

/-- The digits of a number, none for 0. -/
def dd (m : Nat) : List UInt8 := if m = 0 then [] else Lib.decDigits m

theorem dd_zero : dd 0 = [] := by simp [dd]

theorem dd_step (m : Nat) (h : 0 < m) : dd m = dd (m / 10) ++ [UInt8.ofNat (48 + m % 10)] := by
  unfold dd
  rw [if_neg (by omega), Lib.decDigits]
  by_cases h10 : m < 10
  · rw [dif_pos h10, if_pos (by omega), Nat.mod_eq_of_lt h10]; rfl
  · rw [dif_neg h10, if_neg (by omega)]

theorem dd_len (n : Nat) : (dd n).length ≤ n := by
  induction n using Nat.strongRecOn with
  | ind n ih =>
    by_cases h : n = 0
    · subst h; rw [dd_zero]; simp
    · have := ih (n / 10) (by omega)
      rw [dd_step n (by omega)]
      simp
      omega

theorem dd_round (n m : Nat) (s : List UInt8) (h : 0 < m) (hs : dd m ++ s = dd n) : dd (m / 10) ++ (UInt8.ofNat (48 + m % 10) :: s) = dd n := by
  rw [← hs, dd_step m h, List.append_assoc]; rfl

/-- The text of a mark. -/
def mtext (k : Nat) : List UInt8 := 109 :: dd k

/-- The marks from k on, so many. -/
def marks (k n : Nat) : List (List UInt8) := (List.range n).map fun i => mtext (k + i)

theorem marks_len (k n : Nat) : (marks k n).length = n := by simp [marks]

theorem marks_at (k n i : Nat) (h : i < n) : (marks k n)[i]? = some (mtext (k + i)) := by simp [marks, h]

set_option maxHeartbeats 1000000 in
theorem mark_text (n : Nat) (a : Int) (ha : a = n) (h0 : 0 < n) (h1 : n ≤ 1000000000) (w : World) :
    Calls Try.prog 20 #[.int .i64 a] w fun e w' => e = .returned (.string ⟨(mtext n).toArray⟩) ∧ Below w.heap.size w w' := by
  subst ha
  have hb : ¬ (n : Int) ≤ 0 := by omega
  go_enter Try.func20, Try.ntmps20
  go_wp2
  go_loopw [0, 3] (fun a o wr => ∃ m : Nat, ∃ s : List UInt8, m ≤ n ∧ a = .int .i64 m ∧ o = .string ⟨s.toArray⟩ ∧ dd m ++ s = dd n ∧ Below w.heap.size w wr) (fun a _ _ => (RowKit.intOf a).toNat)
  case atStart => exact ⟨n, [], Nat.le_refl _, rfl, rfl, by simp, Below.refl _ _⟩
  case round =>
    obtain ⟨m, s, hm, rfl, rfl, hs, hnx⟩ := hrel
    have hlen : s.length ≤ 1000000000 := by
      have := dd_len n
      have := congrArg List.length hs
      simp at this
      omega
    by_cases hlt : 0 < m
    · have HS := hid (dd_round n m s hlt hs)
      clear hs
      have hd : m % 10 < 10 := Nat.mod_lt _ (by omega)
      have hcv : ((UInt8.ofNat (48 + m % 10)).toNat : Int) = 48 + (m : Int) % 10 := by
        rw [UInt8.toNat_ofNat_of_lt' (by show _ < 256; omega)]; omega
      have hback := run_convert_bytes_back (P := Try.prog) (wr.alloc (.cells #[.int .u8 (48 + (m : Int) % 10)] 5)) 45 9 5 ⟨wr.heap.size, 0, none⟩ 1 [UInt8.ofNat (48 + m % 10)] Try.underlying45 Try.underlying5 Try.underlying9 (fun j hj => by
        have : j = 0 := by simpa using hj
        subst this
        show _ = some (Value.int .u8 ((UInt8.ofNat (48 + m % 10)).toNat : Int))
        rw [hcv]
        simp [Addr.add])
      clear hcv hd
      simp only [List.length_cons, List.length_nil, Nat.zero_add] at hback
      go_wp2
      go_roundw
      case rel =>
        refine ⟨m / 10, UInt8.ofNat (48 + m % 10) :: s, by omega, by go_num, ?_, HS.out, (hnx.alloc hnx.size _)⟩
        simpa using cat_bytes [UInt8.ofNat (48 + m % 10)] s
      case measure => simp [RowKit.intOf]; omega
    · have hm0 : m = 0 := by omega
      subst hm0
      have hs' : s = dd n := by rw [← hs, dd_zero]; rfl
      clear hs
      have HS := hid hs'
      clear hs'
      go_wp2
      go_ret
      exact ⟨by rw [HS.out]; rfl, hnx⟩

/-- A row of texts. -/
def TextsAt (w : World) (sv : Value) (ps : List (List UInt8)) : Prop :=
  ∃ p c, sv = .slice p ps.length c ∧ (ps ≠ [] → ∃ g, p = some ⟨g, 0, none⟩ ∧ KRow w g ps)

theorem TextsAt.on {w w' : World} {sv : Value} {ps : List (List UInt8)} (h : TextsAt w sv ps) (hb : Below w.heap.size w w') : TextsAt w' sv ps := by
  obtain ⟨p, c, rfl, hp⟩ := h
  refine ⟨p, c, rfl, fun hne => ?_⟩
  obtain ⟨g, rfl, hk⟩ := hp hne
  exact ⟨g, rfl, hk.on hb⟩

theorem texts_of {w : World} {base : Nat} {sv : Value} {ps : List (List UInt8)} (h : w.ownsRow base 9 1 sv ps.length (strs ps)) : TextsAt w sv ps := by
  by_cases hn : 0 < ps.length
  · obtain ⟨g, c, rfl, hk, _⟩ := krow_of h hn
    exact ⟨_, c, rfl, fun _ => ⟨g, rfl, hk⟩⟩
  · have hz : ps = [] := List.eq_nil_of_length_eq_zero (by omega)
    subst hz
    rcases h.2 with ⟨hv, _⟩ | ⟨g, cap, cur, hv, _⟩
    · exact ⟨none, 0, hv, fun h => absurd rfl h⟩
    · exact ⟨_, cap, hv, fun h => absurd rfl h⟩

/-! A row that is marked. -/

theorem grown_drewN {u v : World} {row : Option Nat} (h : u.grownBy v row) (n : Nat) : u.grownBy (v.drewN n) row := ⟨h.os, h.tape, h.output, h.size, h.block⟩

theorem strs_len (ps : List (List UInt8)) : (strs ps).length = ps.length := by simp [strs]

/-- The row while it is being marked. -/
def mixed (ps : List (List UInt8)) (k i : Nat) : List Value := strs (marks k i ++ ps.drop i)

theorem mixed_zero (ps : List (List UInt8)) (k : Nat) : mixed ps k 0 = strs ps := by simp [mixed, marks]

theorem mixed_all (ps : List (List UInt8)) (k n : Nat) (h : ps.length = n) : mixed ps k n = strs (marks k n) := by
  unfold mixed
  rw [List.drop_of_length_le (by omega), List.append_nil]

theorem mixed_set (ps : List (List UInt8)) (k i : Nat) (h : i < ps.length) : (mixed ps k i).set i (.string ⟨(mtext (k + i)).toArray⟩) = mixed ps k (i + 1) := by
  apply List.ext_getElem?
  intro j
  unfold mixed strs
  have hm : ∀ m, (marks k m).length = m := fun m => marks_len k m
  rw [List.getElem?_set]
  simp only [List.length_map, List.length_append, hm, List.length_drop]
  by_cases hj : i = j
  · subst hj
    rw [if_pos rfl, if_pos (by omega), List.getElem?_map, List.getElem?_append_left (by rw [hm]; omega), marks_at k _ _ (by omega)]
    rfl
  · rw [if_neg hj]
    simp only [List.getElem?_map]
    by_cases hlt : j < i
    · rw [List.getElem?_append_left (by rw [hm]; omega), List.getElem?_append_left (by rw [hm]; omega), marks_at k _ _ hlt, marks_at k _ _ (by omega)]
    · rw [List.getElem?_append_right (by rw [hm]; omega), List.getElem?_append_right (by rw [hm]; omega), hm, hm, List.getElem?_drop, List.getElem?_drop]
      congr 2
      omega

theorem mixed_at (ps : List (List UInt8)) (k i : Nat) (h : i < ps.length) : ∃ v, (mixed ps k i)[i]? = some v := by
  have : i < (mixed ps k i).length := by
    unfold mixed
    rw [strs_len, List.length_append, marks_len, List.length_drop]
    omega
  exact ⟨_, List.getElem?_eq_getElem this⟩

end Go.Proofs.Ytemjfhgjdiijkaa
