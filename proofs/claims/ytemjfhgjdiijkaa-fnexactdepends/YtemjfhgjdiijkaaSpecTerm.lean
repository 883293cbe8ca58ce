/- The specification's small functions on texts of terms: names, secrets, words, shapes; each answers its plain twin. -/
import Derived.Test.YtemjfhgjdiijkaaProg
import Derived.Test.YtemjfhgjdiijkaaTermPlain
import Derived.WalkKit
import Derived.WalkSpells
import Derived.WalkLawsBesides
import Derived.Lib.Hide
import Derived.Lib.Strings
import Derived.Deep.QuietTactic
import Derived.BigQuiet
namespace Go.Proofs.Ytemjfhgjdiijkaa
open Go.RowKit
open Go.Lib (hid)

theorem in_calls (n : Int) (w : World) :
    Calls Try.prog 14 #[.int .i64 n, .int .i64 3, .int .i64 7] w fun e w' => e = .returned (.bool (decide (3 ≤ n ∧ n ≤ 7))) ∧ w' = w := by
  by_cases h0 : 3 ≤ n
  · by_cases h1 : n ≤ 7
    · go_enter Try.func14, Try.ntmps14
      go_wp2
      go_ret
      exact ⟨by simp [h0, h1], rfl⟩
    · go_enter Try.func14, Try.ntmps14
      go_wp2
      go_ret
      exact ⟨by simp [h1], rfl⟩
  · go_enter Try.func14, Try.ntmps14
    go_wp2
    go_ret
    exact ⟨by simp; omega, rfl⟩

theorem at_list (s : ByteArray) (i : Nat) (h : i < s.size) : s.data.toList[i]? = some s[i] := by
  rw [List.getElem?_eq_getElem (by simpa using h)]
  rfl

end Go.Proofs.Ytemjfhgjdiijkaa
