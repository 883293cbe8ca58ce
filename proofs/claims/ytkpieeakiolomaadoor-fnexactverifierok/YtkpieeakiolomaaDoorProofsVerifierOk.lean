/- THE LAW FnExactVerifierOk HOLDS AT EVERY INPUT: for every Verifier the code's VerifierOk answers as the specification's VerifierOk, and writes into no part of the Verifier (Verifiers of more than 1048576 rows, nonces, texts and bytes in all are let by in the law's own first lines). The card ties the listed tables to the program's text. No condition besides. -/
import Derived.Test.YtkpieeakiolomaaDoorCards
import Derived.Test.YtkpieeakiolomaaDoorTie
import Derived.Test.YtkpieeakiolomaaDoorVarBack
import Derived.Test.YtkpieeakiolomaaDoorPackArgV
import Derived.Test.YtkpieeakiolomaaDoorLawVerifierOk
import Derived.ProofKit
import Derived.LaidMore
import Derived.ChangeVars
import Derived.OpenShut
import Derived.Stop.Joined
import Derived.SliceStrings
import Derived.Carry
import Derived.Lib.SmallJoins
import Derived.Lib.LaidTab
import Derived.ChangeSlices
import Derived.Stop.LaidErr
namespace Go.Proofs.YtkpieeakiolomaaDoor
open Go.ChangeShapes Go.WideShapes Go.ChangeAt Go.RowKit
open Go.ChangeMaps (open_string shut_string)

theorem own : ownKnob Tryd.prog.godebug = none := by kernel_rfl

/-- What the row's list gives: the table of powers of ten, the third of four, and the table of kinds. -/
theorem table {W : World} (h : laidMetH Tryd.prog Rows.fnExactVerifierOkRow.laid W) : (Tab W ∧ 0 < W.heap.size) ∧ Lib.TabIs Tryd.prog W "internal/strconv.uint64pow10" .u64 Lib.pow10Tab := by
  rw [MakeChecks.laidMetH_plain _ _ _ (by kernel_rfl)] at h
  have h3 : laidMet Tryd.prog (("internal/strconv.uint64pow10", Lib.tabData .u64 Lib.pow10Tab) :: [("loop.example/g00082/impl.termShapes", Rows.laid_loop_example_g00082_impl_termShapes)]) W := h.tail.tail
  exact ⟨tab_laid (Lib.laidMet.reads h3.tail (List.mem_singleton.2 rfl)), Lib.tabIs_of_head (g := 1) (t := 243) (e := 184) (n := 20) (by kernel_rfl) (by kernel_rfl) Tryd.underlying243 Tryd.underlying184 (by kernel_rfl) (by kernel_rfl) h3⟩

theorem door_met (os : Os) (args : Array Value) : laidMetH Tryd.prog Rows.fnExactVerifierOkRow.laid ((World.doorLaid Tryd.prog 400 os).forCall (fun _ _ => 0) ⟨#[], args, []⟩).memory :=
  laidMetH_of_parts3 (fuel := 8) (laidMet_of_run' 8 (by kernel_rfl) (by kernel_rfl)) (by kernel_rfl) (by kernel_rfl)

set_option maxRecDepth 100000 in
theorem lifted (os : Os) (started : os.Started) (H : Type) (enc : TypeId × Value → H) :
    ReturnsInHanded {} Tryd.checked os 4 .any (fun w args => (Rows.fnExactVerifierOkSpec.pre enc Tryd.prog Tryd.f4 [] false w args ∧ laidMetH Tryd.prog Rows.fnExactVerifierOkRow.laid w) ∧ sizedMet enc Tryd.prog Tryd.f4 (OpenSpec.ofChange Rows.fnExactVerifierOkSpec) false w args)
      (Rows.fnExactVerifierOkSpec.post enc Tryd.prog Tryd.f4 false true false false) := by
  refine returnsInHanded_of_change_and (C := Tryd.checked) (X := fun w _ => laidMetH Tryd.prog Rows.fnExactVerifierOkRow.laid w) (fun _ _ _ hh h => h.of_heap hh) own started (by kernel_rfl) Tryd.func4
    (ChangeSpec.witness_shaped (enc := enc) (C := Tryd.checked) (os := os) (X := fun w _ => laidMetH Tryd.prog Rows.fnExactVerifierOkRow.laid w) false (World.doorLaid Tryd.prog 400 os) #[.agg #[.string ⟨#[]⟩, .string ⟨#[]⟩, .int .i64 0, .slice none 0 0, .slice none 0 0, .string ⟨#[]⟩, .int .i64 0, .int .i64 0, .slice none 0 0]] 8 rfl (World.shaped_of_RefB (by kernel_rfl) (by kernel_rfl)) (by kernel_rfl) (by kernel_rfl) (by kernel_rfl) (door_met os _)) ?_
  intro W base args ds gs before hval0 hW _ _ hL _
  have hval : ∀ (j : Nat) t v, Tryd.f4.params[j]? = some t → args[j]? = some v → Value.okWide Tryd.prog W .any base t v := hval0
  have hW' := hW
  obtain ⟨p, q, hA0, hV, rfl, hfz, hnd⟩ := hW
  have hA : DataW.TrodAll enc Tryd.prog W 0 (fun _ => true) true Tryd.f4.params.toList args.toList ds p := hA0
  rw [Tryd.params4] at hA hval
  obtain ⟨v0, d0, rfl, rfl, h0⟩ := trodAll_one hA
  obtain ⟨_, _, _, _, dz, _, rfl, _⟩ := trodVars_one hV
  obtain ⟨⟨hT, hG⟩, hP⟩ := table hL
  have hkeep0 := h0
  obtain ⟨s0, rt0, num0, re0, wd0, tk0, now0, next0, ne0, a1_0, a2_0, a3_0, rfl, z0_0, z1_0, h1_0, s1_0, m1_0, h2_0, s2_0, m2_0, z3_0, h3_0, m3_0⟩ := open_Verifier (fun _ => rfl) (hval 0 41 v0 rfl rfl) h0
  have hlt0 : ∀ x ∈ p, x.block < W.heap.size := fun x hx => DataW.TrodAll.lt (trodAll_mk1 hkeep0) x hx
  clear hA0 hval0
  refine (law_verifierok s0 rt0 num0 re0 wd0 tk0 now0 next0 ne0 z0_0 z1_0 s1_0 m1_0 s2_0 m2_0 z3_0 m3_0 a1_0 a2_0 a3_0 W h1_0 h2_0 h3_0 hT hG hP).mono fun e W' ⟨he, hb⟩ => ?_
  subst he
  exact ⟨_, rfl, _, _, _, [], _, _, hW', trodAll_mk1 (shut_bool Tryd.underlying4 _), trodAll_mk1 (Below.trod laidOut (by kernel_rfl) (of_decide_eq_true (by kernel_rfl)) hkeep0 hb hlt0), tab_back hb hV, hb.frame _, fun h => by cases h⟩

theorem said : Rows.FnExactVerifierOkSaid :=
  OpenClaim.holds_of_wide 4 Tryd.f4 rfl rfl rfl rfl rfl rfl rfl ⟨rfl, rfl, rfl, rfl, rfl⟩ rfl rfl rfl rfl rfl (by kernel_rfl) Tryd.func4 (by kernel_rfl)
    (of_decide_eq_true (by kernel_rfl)) (by unfold Func.isWrapper; first | (rw [if_pos (by decide +kernel)]; kernel_rfl) | (rw [if_neg (by decide +kernel)]; exact ⟨rfl, rfl⟩))
    (fun os started H enc _ => lifted os started H enc)

theorem plain (f : FuncId) (fn : Func) (hf : Tryd.pinned.checked.prog.funcNamed "loop.example/g00082/laws.FnExactVerifierOk" = some f) (hfn : Tryd.pinned.checked.prog.funcs[f]? = some fn) :
    true = Tryd.pinned.checked.prog.looks [] ∧ ∀ (j : Nat) t, fn.params[j]? = some t → Tryd.pinned.checked.prog.wantsStandIn t = false := by
  obtain rfl : f = 4 := Option.some.inj ((show Tryd.prog.funcNamed "loop.example/g00082/laws.FnExactVerifierOk" = some 4 by kernel_rfl).symm.trans hf) |>.symm
  obtain rfl : fn = Tryd.f4 := (Option.some.inj (Tryd.func4.symm.trans hfn)).symm
  refine ⟨by kernel_rfl, fun j t ht => ?_⟩
  rw [Tryd.params4] at ht
  obtain rfl : t = 41 := by simpa using Array.mem_of_getElem? ht
  exact (show Tryd.prog.wantsStandIn 41 = false by kernel_rfl)

/-- THE CARD. -/
theorem card : Rows.FnExactVerifierOkCardSaid :=
  Claim7.holds_tied_plain_at .later [] _ _ _ _ said (fun _ h => by cases h) (by kernel_rfl) (fun _ h => by cases h) fnExactVerifierOk_row_tie rfl ⟨rfl, rfl⟩ (by kernel_rfl) rfl plain (by kernel_rfl)
#print axioms card
end Go.Proofs.YtkpieeakiolomaaDoor
