/- THE LAW FnExactFitClock HOLDS AT EVERY INPUT: for every list of ticks and every list of what was shown the code's FitClock answers as the specification's FitClock (two NaNs count as one) and writes into none of them (lists of more than 1048576 are let by in the law's own first lines). No condition besides. -/
import Derived.Test.YthpnlhbfginkjaaRows
import Derived.Test.YthpnlhbfginkjaaArgFloat
import Derived.Test.YthpnlhbfginkjaaLawFitClock
import Derived.ProofKit
import Derived.LaidMore
import Derived.ChangeVars
import Derived.OpenShut
import Derived.Stop.Joined
import Derived.SliceStrings
import Derived.Carry
import Derived.Lib.SmallJoins
import Derived.Lib.LaidTab
import Derived.ChangeSlices
import Derived.Stop.LaidErr
namespace Go.Proofs.Ythpnlhbfginkjaa
open Go.ChangeShapes Go.WideShapes Go.ChangeAt Go.RowKit
open Go.ChangeMaps (open_string shut_string)

theorem own : ownKnob Try.prog.godebug = none := by kernel_rfl

theorem laidOut : laidOutB Try.prog = true := by kernel_rfl

theorem cells_i64 : Try.prog.cellsOf 2 = 1 := by kernel_rfl

theorem arg_ints {H : Type} {enc : TypeId × Value → H} {W : World} {base fuel : Nat} {spare : Nat → Bool} {held : Bool} {v : Value} {x : DataW H × List MemPlace}
    (h : DataW.trod enc Try.prog W base spare held fuel 31 [v] = some x) (hsp : ∀ k, spare k = true) : ∃ l : List Int, l.length ≤ maxLen ∧ ArgInts W v l := by
  rcases open_ints Try.underlying31 Try.underlying2 cells_i64 h with ⟨hcs, _⟩ | ⟨ad, len', cap', zs, hcs, _, hl, hm, hz, _, hcell, _⟩
  · injection hcs with hcs _
    rw [hcs]
    exact ⟨[], Nat.zero_le _, none, 0, rfl, fun i hi => absurd hi (by simp)⟩
  · injection hcs with hcs _
    rw [hcs]
    rw [if_pos (hsp _)] at hz
    have hlen : (zs.take len').length = len' := by simp; omega
    refine ⟨zs.take len', by rw [hlen]; exact Nat.le_trans hl hm, some ad, cap', by rw [hlen], fun i hi => ⟨ad, rfl, ?_, ?_⟩⟩
    · rw [hlen] at hi
      have := World.block_lt_of_cell? W _ (hcell i (by omega))
      rw [add_block] at this
      exact this
    · rw [hlen] at hi
      rw [hcell i (by omega), List.getElem_take]
      simp [List.getD_eq_getElem?_getD, List.getElem?_eq_getElem (show i < zs.length by omega)]

set_option maxRecDepth 100000 in
theorem lifted (os : Os) (started : os.Started) (H : Type) (enc : TypeId × Value → H) :
    ReturnsInHanded {} Try.checked os 4 .any (Rows.fnExactFitClockSpec.pre6 enc Try.prog Try.f4 Rows.fnExactFitClockRow.domain false) (Rows.fnExactFitClockSpec.post enc Try.prog Try.f4 false true false false) := by
  refine returnsInHanded_of_change (C := Try.checked) own started (by kernel_rfl) Try.func4
    (ChangeSpec.witness6 (enc := enc) (C := Try.checked) false ⟨#[], #[.slice none 0 0, .slice none 0 0], []⟩ 8 (by kernel_rfl) (by kernel_rfl) (by kernel_rfl) (by kernel_rfl)) ?_
  intro W base args ds gs before hval0 hW hcnd _
  have hval : ∀ (j : Nat) t v, Try.f4.params[j]? = some t → args[j]? = some v → Value.okWide Try.prog W .any base t v := hval0
  have hW' := hW
  obtain ⟨p, q, hA0, hV, rfl, hfz, hnd⟩ := hW
  have hA : DataW.TrodAll enc Try.prog W 0 (fun _ => true) true Try.f4.params.toList args.toList ds p := hA0
  rw [Try.params4] at hA hval
  obtain ⟨v0, v1, d0, d1, p0, p1, rfl, rfl, rfl, h0, h1⟩ := trodAll_two hA
  obtain ⟨rfl, rfl⟩ := trodVars_none hV
  have hkeep0 := h0
  obtain ⟨a0, len0, cap0, rfl⟩ := okWide_slice Try.underlying31 (hval 0 31 v0 rfl rfl)
  obtain ⟨fuel0, hf0⟩ := h0
  obtain ⟨l0, hl0, ha0⟩ := arg_ints (v := .slice a0 len0 cap0) (by simpa only [Value.cells] using hf0) (fun _ => rfl)
  have hlt0 : ∀ x ∈ p0, x.block < W.heap.size := fun x hx => DataW.TrodAll.lt (trodAll_mk1 hkeep0) x hx
  have hkeep1 := h1
  obtain ⟨a1, len1, cap1, rfl⟩ := okWide_slice Try.underlying32 (hval 1 32 v1 rfl rfl)
  obtain ⟨fuel1, hf1⟩ := h1
  obtain ⟨l1, ha1, hq1, hn1⟩ := arg_fls (v := .slice a1 len1 cap1) (by simpa only [Value.cells] using hf1) (fun _ => rfl)
  have hlt1 : ∀ x ∈ p1, x.block < W.heap.size := fun x hx => DataW.TrodAll.lt (trodAll_mk1 hkeep1) x hx
  clear hA0 hval0
  refine (law_fitclock l0 l1 hq1 hl0 hn1 _ _ W ha0 ha1).mono fun e W' ⟨he, hb⟩ => ?_
  subst he
  exact ⟨_, rfl, _, _, _, [], _, _, hW', trodAll_mk1 (shut_bool Try.underlying4 _), trodAll_mk2 (Below.trod laidOut (by kernel_rfl) (of_decide_eq_true (by kernel_rfl)) hkeep0 hb hlt0) (Below.trod laidOut (by kernel_rfl) (of_decide_eq_true (by kernel_rfl)) hkeep1 hb hlt1), rfl, hb.frame _, fun h => by cases h⟩

theorem said : Rows.FnExactFitClockSaid :=
  OpenClaim.holds_of_wide 4 Try.f4 rfl rfl rfl rfl rfl rfl rfl ⟨rfl, rfl, rfl, rfl, rfl⟩ rfl rfl rfl rfl rfl (by kernel_rfl) Try.func4 (by kernel_rfl)
    (of_decide_eq_true (by kernel_rfl)) (by unfold Func.isWrapper; first | (rw [if_pos (by decide +kernel)]; kernel_rfl) | (rw [if_neg (by decide +kernel)]; exact ⟨rfl, rfl⟩))
    (fun os started H enc _ => lifted os started H enc)

#print axioms said
end Go.Proofs.Ythpnlhbfginkjaa
