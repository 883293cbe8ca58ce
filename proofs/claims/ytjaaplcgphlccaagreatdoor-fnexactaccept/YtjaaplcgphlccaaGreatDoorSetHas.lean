/- Is a text in a set: the program's has. -/
import Derived.Test.YtjaaplcgphlccaaGreatDoorRelImpl
namespace Go.Proofs.YtjaaplcgphlccaaGreatDoor
open Go.RowKit Go.WideMaps Go.Maps
open Go.Lib (hid)

theorem unit_zero (w : World) : (zeroValue 90).run Tryz.prog w = .ok (.agg #[]) w := by kernel_rfl

set_option maxRecDepth 20000 in
theorem shas_calls {H : Type} (D : DataW H) (s n : Nat) (x : ByteArray) (w : World) (hx : x.size ≤ maxLen) (ho : w.ownsMap Tryz.prog 9 (unitElem (H := H)) s n D) :
    Calls Tryz.prog 53 #[.map (some s), .string x] w fun e w' => e = .returned (.bool (has D (.string x.data.toList))) ∧ Below w.heap.size w w' := by
  have HO := hid ho
  have HK := hid (keyOf_string_mk (P := Tryz.prog) Tryz.underlying9 hx)
  have hst : ∀ (ad : Addr) (W : World), (storeCells ad []).run Tryz.prog W = .ok () W := fun _ _ => by rfl
  clear ho
  go_enter Tryz.func53, Tryz.ntmps53
  go_wp2_with (first
    | (at_lookup; refine wpList_lookup_own_ok _ rfl _ _ _ rfl 9 90 setKeyed Tryz.underlying49 (unitElem (H := H)) (unit_zero _) (.agg []) [] rfl s n D rfl HO.out _ (.string x.data.toList) rfl HK.out ?_; intro v q hv; have hve : v = Value.agg #[] := (unitElem_inv hv).1; subst hve; clear hv; refine Hid.out ?_)
    | (fail "no arm"))
  refine hid ?_
  go_wp2
  go_ret
  exact ⟨rfl, (Below.refl _ _).alloc (Nat.le_refl _) _⟩
end Go.Proofs.YtjaaplcgphlccaaGreatDoor
