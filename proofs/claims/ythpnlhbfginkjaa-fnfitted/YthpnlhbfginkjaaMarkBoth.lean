/- Marked, the specification's and the program's. -/
import Derived.Test.YthpnlhbfginkjaaFloatKit
import Derived.Test.YthpnlhbfginkjaaFloatTwo
namespace Go.Proofs.Ythpnlhbfginkjaa
open Go.RowKit
open Go.Lib (hid)

attribute [local go_sem] run_fadd run_fsub run_fmul run_fquo run_store_float

/-- The places that are not fresh, among the first so many. -/
def mrkTo (l : List Nat) (now most : Nat) : Nat → List Int
  | 0 => []
  | i + 1 => mrkTo l now most i ++ if freshB (l.getD i 0) now most then [] else [(i : Int)]

theorem mrkTo_no {l : List Nat} {now most i : Nat} (h : freshB (l.getD i 0) now most = true) : mrkTo l now most (i + 1) = mrkTo l now most i := by
  show mrkTo l now most i ++ _ = _
  rw [if_pos h, List.append_nil]

theorem mrkTo_yes {l : List Nat} {now most i : Nat} (h : freshB (l.getD i 0) now most = false) : mrkTo l now most (i + 1) = mrkTo l now most i ++ [(i : Int)] := by
  show mrkTo l now most i ++ _ = _
  rw [if_neg (by rw [h]; decide)]

theorem mrkTo_few (l : List Nat) (now most i : Nat) : (mrkTo l now most i).length ≤ i := by
  induction i with
  | zero => exact Nat.le_refl _
  | succ i ih =>
    show (mrkTo l now most i ++ _).length ≤ _
    rw [List.length_append]
    split <;> simp <;> omega

/-- What Marked answers. -/
def mrkOut (l : List Nat) (now most : Nat) : List Int := if l.length ≤ 100 then mrkTo l now most l.length else []

theorem mrkOut_few (l : List Nat) (now most : Nat) : (mrkOut l now most).length ≤ 100 := by
  unfold mrkOut
  split
  · have := mrkTo_few l now most l.length
    omega
  · simp

def MrkPost (l : List Nat) (now most : Nat) (w : World) (e : Ending) (w' : World) : Prop :=
  ∃ sv, e = .returned sv ∧ Below w.heap.size w w' ∧ w'.ownsRow w.heap.size 2 1 sv (mrkOut l now most).length (ints (mrkOut l now most))

theorem none_intsM (w : World) : (w.alloc (.cells #[] 2)).ownsRow w.heap.size 2 1 (.slice (some ⟨w.heap.size, 0, none⟩) 0 0) 0 [] := World.ownsRow_made w #[] 0 (Nat.le_refl _) (Nat.zero_le _) rfl

end Go.Proofs.Ythpnlhbfginkjaa
