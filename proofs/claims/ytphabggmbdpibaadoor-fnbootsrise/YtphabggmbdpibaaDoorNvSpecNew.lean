/- The specification's NvNew. -/
import Derived.Test.YtphabggmbdpibaaDoorNvSpec
namespace Go.Proofs.YtphabggmbdpibaaDoor
open Go.RowKit
open Go.Lib (hid)

theorem row_in_own2 {w : World} {base n : Nat} {a : Value} {l : List Int} (hn : n = l.length) (h : w.ownsRow base 2 1 a n (ints l)) : RowIn w a l := by
  subst hn
  exact row_in_own h

theorem own_raise {w : World} {base base' n : Nat} {e : TypeId} {v : Value} {xs : List Value} (h : w.ownsRow base e 1 v n xs) (hb : base' ≤ base) : w.ownsRow base' e 1 v n xs :=
  ⟨h.1, h.2.imp id fun ⟨g, cap, cur, a1, a2, a3⟩ => ⟨g, cap, cur, a1, Nat.le_trans hb a2, a3⟩⟩

end Go.Proofs.YtphabggmbdpibaaDoor
