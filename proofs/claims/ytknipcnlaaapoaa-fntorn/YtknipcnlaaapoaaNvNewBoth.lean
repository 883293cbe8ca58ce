/- NvNew, the program's and the specification's, by one post. -/
import Derived.Test.YtknipcnlaaapoaaNvHelp
namespace Go.Proofs.Ytknipcnlaaapoaa
open Go.RowKit
open Go.Lib (hid)

/-- What NvNew answers: the size, the words, and whether. -/
def newOut (l : List Int) : Int × List Int × Bool := if valsB l l.length then (l.length, newWords l, true) else (0, [], false)

def NewPost (l : List Int) (w : World) (e : Ending) (w' : World) : Prop :=
  ∃ sv, e = .returned (.tuple #[.agg #[.int .i64 (newOut l).1, sv], .bool (newOut l).2.2]) ∧ Below w.heap.size w w' ∧ w'.ownsRow w.heap.size 2 1 sv (newOut l).2.1.length (ints (newOut l).2.1)

theorem new_spec (l : List Int) (hl : l.length ≤ 1048576) (a : Value) (w : World) (ha : RowIn w a l) (hnil : ∀ c, a = .slice none l.length c → c = 0) : Calls Try.prog 43 #[a] w (NewPost l w) := by
  unfold NewPost newOut
  by_cases h : valsB l l.length = true
  · rw [if_pos h]
    exact (specNew_yes l (valsB_iff.1 h) a w ha hnil).mono fun e w' ⟨sv, he, hb, ho⟩ => ⟨_, he, hb, ho⟩
  · rw [if_neg h]
    exact (specNew_no l hl (by simpa using h) a w ha).mono fun e w' ⟨he, hb⟩ => ⟨_, he, hb, World.ownsRow_nil _ _ _ _⟩

theorem newOut_few (l : List Int) : (newOut l).2.1.length ≤ 44 := by
  unfold newOut
  split
  · rename_i h
    obtain ⟨_, h2, _, _⟩ := valsB_iff.1 h
    show (newWords l).length ≤ 44
    rw [newWords_len]
    omega
  · exact Nat.zero_le _

end Go.Proofs.Ytknipcnlaaapoaa
