/- The text of a mark, for seats that have no slices of texts. -/
import Derived.Test.YtedmancgpjpecaaBase
import Derived.Test.YtedmancgpjpecaaProg
import Derived.WalkSpells
import Derived.WalkLawsBesides
import Derived.Lib.ItoaNum
namespace Go.Proofs.Ytedmancgpjpecaa
open Go.RowKit
open Go.Lib (hid)

theorem cat_bytes (a b : List UInt8) : (⟨a.toArray⟩ : ByteArray) ++ ⟨b.toArray⟩ = ⟨(a ++ b).toArray⟩ := by
  apply ByteArray.ext
  simp

/-- The digits of a number, none for 0. -/
def dd (m : Nat) : List UInt8 := if m = 0 then [] else Lib.decDigits m

theorem dd_zero : dd 0 = [] := by simp [dd]

theorem dd_step (m : Nat) (h : 0 < m) : dd m = dd (m / 10) ++ [UInt8.ofNat (48 + m % 10)] := by
  unfold dd
  rw [if_neg (by omega), Lib.decDigits]
  by_cases h10 : m < 10
  · rw [dif_pos h10, if_pos (by omega), Nat.mod_eq_of_lt h10]; rfl
  · rw [dif_neg h10, if_neg (by omega)]

theorem dd_len (n : Nat) : (dd n).length ≤ n := by
  induction n using Nat.strongRecOn with
  | ind n ih =>
    by_cases h : n = 0
    · subst h; rw [dd_zero]; simp
    · have := ih (n / 10) (by omega)
      rw [dd_step n (by omega)]
      simp
      omega

theorem dd_round (n m : Nat) (s : List UInt8) (h : 0 < m) (hs : dd m ++ s = dd n) : dd (m / 10) ++ (UInt8.ofNat (48 + m % 10) :: s) = dd n := by
  rw [← hs, dd_step m h, List.append_assoc]; rfl

/-- The text of a mark. -/
def mtext (k : Nat) : List UInt8 := 109 :: dd k

/-- The marks from k on, so many. -/
def marks (k n : Nat) : List (List UInt8) := (List.range n).map fun i => mtext (k + i)

theorem marks_len (k n : Nat) : (marks k n).length = n := by simp [marks]

theorem marks_at (k n i : Nat) (h : i < n) : (marks k n)[i]? = some (mtext (k + i)) := by simp [marks, h]

set_option maxHeartbeats 1000000 in
theorem mark_text (n : Nat) (a : Int) (ha : a = n) (h0 : 0 < n) (h1 : n ≤ 1000000000) (w : World) :
    Calls Try.prog 53 #[.int .i64 a] w fun e w' => e = .returned (.string ⟨(mtext n).toArray⟩) ∧ Below w.heap.size w w' := by
  subst ha
  have hb : ¬ (n : Int) ≤ 0 := by omega
  go_enter Try.func53, Try.ntmps53
  go_wp2
  go_loopw [0, 3] (fun a o wr => ∃ m : Nat, ∃ s : List UInt8, m ≤ n ∧ a = .int .i64 m ∧ o = .string ⟨s.toArray⟩ ∧ dd m ++ s = dd n ∧ Below w.heap.size w wr) (fun a _ _ => (RowKit.intOf a).toNat)
  case atStart => exact ⟨n, [], Nat.le_refl _, rfl, rfl, by simp, Below.refl _ _⟩
  case round =>
    obtain ⟨m, s, hm, rfl, rfl, hs, hnx⟩ := hrel
    have hlen : s.length ≤ 1000000000 := by
      have := dd_len n
      have := congrArg List.length hs
      simp at this
      omega
    by_cases hlt : 0 < m
    · have HS := hid (dd_round n m s hlt hs)
      clear hs
      have hd : m % 10 < 10 := Nat.mod_lt _ (by omega)
      have hcv : ((UInt8.ofNat (48 + m % 10)).toNat : Int) = 48 + (m : Int) % 10 := by
        rw [UInt8.toNat_ofNat_of_lt' (by show _ < 256; omega)]; omega
      have hback := run_convert_bytes_back (P := Try.prog) (wr.alloc (.cells #[.int .u8 (48 + (m : Int) % 10)] 5)) 78 9 5 ⟨wr.heap.size, 0, none⟩ 1 [UInt8.ofNat (48 + m % 10)] Try.underlying78 Try.underlying5 Try.underlying9 (fun j hj => by
        have : j = 0 := by simpa using hj
        subst this
        show _ = some (Value.int .u8 ((UInt8.ofNat (48 + m % 10)).toNat : Int))
        rw [hcv]
        simp [Addr.add])
      clear hcv hd
      simp only [List.length_cons, List.length_nil, Nat.zero_add] at hback
      go_wp2
      go_roundw
      case rel =>
        refine ⟨m / 10, UInt8.ofNat (48 + m % 10) :: s, by omega, by go_num, ?_, HS.out, (hnx.alloc hnx.size _)⟩
        simpa using cat_bytes [UInt8.ofNat (48 + m % 10)] s
      case measure => simp [RowKit.intOf]; omega
    · have hm0 : m = 0 := by omega
      subst hm0
      have hs' : s = dd n := by rw [← hs, dd_zero]; rfl
      clear hs
      have HS := hid hs'
      clear hs'
      go_wp2
      go_ret
      exact ⟨by rw [HS.out]; rfl, hnx⟩

end Go.Proofs.Ytedmancgpjpecaa
