/- The law's own size of a number. -/
import Derived.Test.YthpnlhbfginkjaaDrawLaw
import Derived.Test.YthpnlhbfginkjaaDecPlain
namespace Go.Proofs.Ythpnlhbfginkjaa
open Go.RowKit
open Go.Lib (hid)

attribute [local go_sem] run_fadd run_fsub run_fmul run_fquo run_fneg

theorem size_told (x : Nat) (w : World) : Calls Try.prog 27 #[.float .f64 x] w fun e w' => e = .returned (.float .f64 (sizF x)) ∧ w' = w := by
  by_cases h : FloatKind.f64.format.order x 0 = some .lt
  · have HO : Hid (sizF x = Op.negFloat .f64 x) := hid (by unfold sizF; rw [if_pos h])
    go_enter Try.func27, Try.ntmps27
    go_wp2
    go_ret
    exact ⟨by rw [HO.out]; rfl, rfl⟩
  · have HO : Hid (sizF x = x) := hid (by unfold sizF; rw [if_neg h])
    have e : (FloatKind.f64.format.order x 0 == some .lt) = false := by simpa using h
    clear h
    go_enter Try.func27, Try.ntmps27
    go_wp2
    go_ret
    exact ⟨by rw [HO.out]; rfl, rfl⟩

end Go.Proofs.Ythpnlhbfginkjaa
