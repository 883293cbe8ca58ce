/- THE LAW FnExactNvNew HOLDS AT EVERY INPUT: for every list of numbers the code's NvNew answers as the specification's NvNew, field by field, writes into no argument and owns its answer (lists of more than 1048576 numbers are let by in the law's own first line). No condition besides. -/
import Derived.Test.YthhmjcojkgoekaaRows
import Derived.Test.YthhmjcojkgoekaaLawNvNew
import Derived.ProofKit
import Derived.LaidMore
import Derived.OpenShut
import Derived.Carry
namespace Go.Proofs.Ythhmjcojkgoekaa
open Go.ChangeShapes Go.WideShapes Go.ChangeAt Go.RowKit

theorem own : ownKnob Try.prog.godebug = none := by kernel_rfl
theorem laidOut : laidOutB Try.prog = true := by kernel_rfl
theorem cells_int : Try.prog.cellsOf 2 = 1 := by kernel_rfl

set_option maxRecDepth 100000 in
theorem lifted (os : Os) (started : os.Started) (H : Type) (enc : TypeId × Value → H) :
    ReturnsInHanded {} Try.checked os 5 .any (Rows.fnExactNvNewSpec.pre6 enc Try.prog Try.f5 Rows.fnExactNvNewRow.domain false) (Rows.fnExactNvNewSpec.post enc Try.prog Try.f5 false true false false) := by
  refine returnsInHanded_of_change (C := Try.checked) own started (by kernel_rfl) Try.func5
    (ChangeSpec.witness6 (enc := enc) (C := Try.checked) false ⟨#[], #[.slice none 0 0], []⟩ 8 (by kernel_rfl) (by kernel_rfl) (by kernel_rfl) (by kernel_rfl)) ?_
  intro W base args ds gs before hval0 hW hcnd _
  have hval : ∀ (j : Nat) t v, Try.f5.params[j]? = some t → args[j]? = some v → Value.okWide Try.prog W .any base t v := hval0
  have hW' := hW
  obtain ⟨p, q, hA0, hV, rfl, hfz, hnd⟩ := hW
  have hA : DataW.TrodAll enc Try.prog W 0 (fun _ => true) true Try.f5.params.toList args.toList ds p := hA0
  rw [Try.params5] at hA hval
  obtain ⟨v0, d0, rfl, rfl, h0⟩ := trodAll_one hA
  obtain ⟨rfl, rfl⟩ := trodVars_none hV
  obtain ⟨a0, len, cap, rfl⟩ := okWide_slice Try.underlying24 (hval 0 24 v0 rfl rfl)
  have hkeep := h0
  obtain ⟨fuel, hf⟩ := h0
  clear hA0 hval0
  have harg : ∃ l : List Int, ArgInts W (.slice a0 len cap) l := by
    rcases open_ints Try.underlying24 Try.underlying2 cells_int hf with ⟨hcs, _⟩ | ⟨ad, len', cap', zs, hcs, _, hl, hm, hz, _, hcell, _⟩
    · simp only [Value.cells] at hcs
      injection hcs with hcs _
      rw [hcs]
      exact ⟨[], none, 0, rfl, fun i hi => absurd hi (by simp)⟩
    · simp only [Value.cells] at hcs
      have hcs' : Value.slice a0 len cap = .slice (some ad) len' cap' := by
        have := congrArg List.head? hcs
        simpa using this
      rw [hcs']
      simp only [if_true] at hz
      have hlen : (zs.take len').length = len' := by simp; omega
      refine ⟨zs.take len', some ad, cap', by rw [hlen], fun i hi => ⟨ad, rfl, ?_, ?_⟩⟩
      · rw [hlen] at hi
        have := World.block_lt_of_cell? W _ (hcell i (by omega))
        rw [add_block] at this
        exact this
      · rw [hlen] at hi
        rw [hcell i (by omega), List.getElem_take]
        simp [List.getD_eq_getElem?_getD, List.getElem?_eq_getElem (show i < zs.length by omega)]
  obtain ⟨l, ha⟩ := harg
  refine (law_calls l _ W ha).mono fun e W' ⟨he, hb⟩ => ?_
  subst he
  have hlt : ∀ x ∈ p, x.block < W.heap.size := fun x hx => DataW.TrodAll.lt (trodAll_mk1 hkeep) x hx
  exact ⟨_, rfl, _, _, _, [], p, [], hW', trodAll_mk1 (shut_bool Try.underlying4 _), trodAll_mk1 (Below.trod laidOut (by kernel_rfl) (of_decide_eq_true (by kernel_rfl)) hkeep hb hlt), rfl, hb.frame _, fun h => by cases h⟩

theorem said : Rows.FnExactNvNewSaid :=
  OpenClaim.holds_of_wide 5 Try.f5 rfl rfl rfl rfl rfl rfl rfl ⟨rfl, rfl, rfl, rfl, rfl⟩ rfl rfl rfl rfl rfl (by kernel_rfl) Try.func5 (by kernel_rfl)
    (of_decide_eq_true (by kernel_rfl)) (by unfold Func.isWrapper; first | (rw [if_pos (by decide +kernel)]; kernel_rfl) | (rw [if_neg (by decide +kernel)]; exact ⟨rfl, rfl⟩))
    (fun os started H enc _ => lifted os started H enc)
#print axioms said
end Go.Proofs.Ythhmjcojkgoekaa
