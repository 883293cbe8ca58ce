/- What the drawn laws on floats share. -/
import Derived.Test.YthpnlhbfginkjaaBase
import Derived.Test.YthpnlhbfginkjaaDrawFloat
import Derived.Test.YthpnlhbfginkjaaFloatTwo
namespace Go.Proofs.Ythpnlhbfginkjaa
open Go.RowKit
open Go.Lib (hid)

def TBytes (w : World) (q : Option Addr) (n : Nat) : Prop := ∀ i, i < n → ∃ ad : Addr, q = some ad ∧ ad.block < w.heap.size ∧ ∃ x : Int, 0 ≤ x ∧ x < 256 ∧ w.cell? (ad.add i) = some (.int .u8 x)

theorem big_callsF (q : Option Addr) (n c : Nat) (w : World) : Calls Try.prog 21 #[.slice q n c] w fun e w' => e = .returned (.bool (decide ((n : Int) > 1048576))) ∧ w' = w := by
  go_enter Try.func21, Try.ntmps21
  go_wp2
  go_ret
  exact ⟨rfl, rfl⟩

theorem step_tail {b : Nat} {w w1 w2 : World} (hb : Below w.heap.size w w1) (hs : Step b w1 w2) (h : w.heap.size ≤ b) : Below w.heap.size w w2 :=
  hb.trans ⟨hs.os, hs.tape, hs.output, hs.size, fun k hk => hs.block k (Nat.lt_of_lt_of_le hk hb.size) (by omega)⟩

theorem same_told {o : Option Nat} {a b : Nat} (ha : FS o a) (hb : FS o b) : sameB a b = true := by
  unfold sameB
  rcases ha.both hb with h | ⟨h1, h2⟩
  · rw [h]; simp
  · rw [h1, h2]; simp

theorem told_lt {o : Option Nat} {a : Nat} (ho : ∀ x, o = some x → x < 18446744073709551616) (h : FS o a) : nanB a = false → a < 18446744073709551616 := by
  intro hn
  cases o with
  | none => rw [show nanB a = true from h] at hn; cases hn
  | some x => rw [show a = x from h]; exact ho x rfl
end Go.Proofs.Ythpnlhbfginkjaa
