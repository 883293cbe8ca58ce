/- The specification's secrets, words of kinds and shapes of parts: each answers its plain twin. -/
import Derived.Test.YtemjfhgjdiijkaaSpecTerm
namespace Go.Proofs.Ytemjfhgjdiijkaa
open Go.RowKit
open Go.Lib (hid)

theorem tail_bytes (s : ByteArray) : (s.extract 1 s.size).data.toList = s.data.toList.tail := by
  rw [Lib.extract_data, List.drop_one]
  exact List.take_of_length_le (by simp)

/-- The first part, where a shape looks at it. -/
def FirstAt (w : World) (g o : Nat) (ps : List (List UInt8)) : Prop := ∀ p r, ps = p :: r → w.cell? ⟨g, o, none⟩ = some (.string ⟨p.toArray⟩)

end Go.Proofs.Ytemjfhgjdiijkaa
