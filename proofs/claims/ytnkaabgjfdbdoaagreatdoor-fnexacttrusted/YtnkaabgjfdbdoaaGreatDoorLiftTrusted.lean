/- The law Trusted lifted to the row's worlds: a part of the proof that it holds at every input. -/
import Derived.Test.YtnkaabgjfdbdoaaGreatDoorCards
import Derived.Test.YtnkaabgjfdbdoaaGreatDoorTie
import Derived.Test.YtnkaabgjfdbdoaaGreatDoorVarBack
import Derived.Test.YtnkaabgjfdbdoaaGreatDoorArgDevice
import Derived.Test.YtnkaabgjfdbdoaaGreatDoorPackAr
import Derived.Test.YtnkaabgjfdbdoaaGreatDoorLawTrusted
import Derived.ProofKit
import Derived.LaidMore
import Derived.ChangeVars
import Derived.OpenShut
import Derived.Stop.Joined
import Derived.SliceStrings
import Derived.Carry
import Derived.Lib.SmallJoins
import Derived.Lib.LaidTab
import Derived.ChangeSlices
import Derived.Stop.LaidErr
namespace Go.Proofs.YtnkaabgjfdbdoaaGreatDoor
open Go.ChangeShapes Go.WideShapes Go.ChangeAt Go.RowKit
open Go.ChangeMaps (open_string shut_string)

theorem own : ownKnob Tryz.prog.godebug = none := by kernel_rfl

/-- What the row's list gives: the table of powers of ten, the third of four, and the table of kinds. -/
theorem table {W : World} (h : laidMetH Tryz.prog Rows.fnExactTrustedRow.laid W) : (Tab W ∧ 0 < W.heap.size) ∧ Lib.TabIs Tryz.prog W "internal/strconv.uint64pow10" .u64 Lib.pow10Tab := by
  rw [MakeChecks.laidMetH_plain _ _ _ (by kernel_rfl)] at h
  have h3 : laidMet Tryz.prog (("internal/strconv.uint64pow10", Lib.tabData .u64 Lib.pow10Tab) :: [("loop.example/g00082/impl.termShapes", Rows.laid_loop_example_g00082_impl_termShapes)]) W := h.tail.tail
  exact ⟨tab_laid (Lib.laidMet.reads h3.tail (List.mem_singleton.2 rfl)), Lib.tabIs_of_head (g := 1) (t := 276) (e := 257) (n := 20) (by kernel_rfl) (by kernel_rfl) Tryz.underlying276 Tryz.underlying257 (by kernel_rfl) (by kernel_rfl) h3⟩

theorem door_met (os : Os) (args : Array Value) : laidMetH Tryz.prog Rows.fnExactTrustedRow.laid ((World.doorLaid Tryz.prog 400 os).forCall (fun _ _ => 0) ⟨#[], args, []⟩).memory :=
  laidMetH_of_parts3 (fuel := 8) (laidMet_of_run' 8 (by kernel_rfl) (by kernel_rfl)) (by kernel_rfl) (by kernel_rfl)

set_option maxRecDepth 100000 in
theorem lifted (os : Os) (started : os.Started) (H : Type) (enc : TypeId × Value → H) :
    ReturnsInHanded {} Tryz.checked os 4 .any (fun w args => (Rows.fnExactTrustedSpec.pre enc Tryz.prog Tryz.f4 [] false w args ∧ laidMetH Tryz.prog Rows.fnExactTrustedRow.laid w) ∧ sizedMet enc Tryz.prog Tryz.f4 (OpenSpec.ofChange Rows.fnExactTrustedSpec) false w args)
      (Rows.fnExactTrustedSpec.post enc Tryz.prog Tryz.f4 false true false false) := by
  refine returnsInHanded_of_change_and (C := Tryz.checked) (X := fun w _ => laidMetH Tryz.prog Rows.fnExactTrustedRow.laid w) (fun _ _ _ hh h => h.of_heap hh) own started (by kernel_rfl) Tryz.func4
    (ChangeSpec.witness_shaped (enc := enc) (C := Tryz.checked) (os := os) (X := fun w _ => laidMetH Tryz.prog Rows.fnExactTrustedRow.laid w) false (World.doorLaid Tryz.prog 400 os) #[.agg #[.string ⟨#[]⟩, .string ⟨#[]⟩, .int .i64 0, .slice none 0 0, .bool false, .slice none 0 0, .slice none 0 0, .int .i64 0, .int .i64 0, .int .i64 0, .string ⟨#[]⟩, .string ⟨#[]⟩, .slice none 0 0, .slice none 0 0], .slice none 0 0] 8 rfl (World.shaped_of_RefB (by kernel_rfl) (by kernel_rfl)) (by kernel_rfl) (by kernel_rfl) (by kernel_rfl) (door_met os _)) ?_
  intro W base args ds gs before hval0 hW _ _ hL _
  have hval : ∀ (j : Nat) t v, Tryz.f4.params[j]? = some t → args[j]? = some v → Value.okWide Tryz.prog W .any base t v := hval0
  have hW' := hW
  obtain ⟨p, q, hA0, hV, rfl, hfz, hnd⟩ := hW
  have hA : DataW.TrodAll enc Tryz.prog W 0 (fun _ => true) true Tryz.f4.params.toList args.toList ds p := hA0
  rw [Tryz.params4] at hA hval
  obtain ⟨v0, v1, d0, d1, p0, p1, rfl, rfl, rfl, h0, h1⟩ := trodAll_two hA
  obtain ⟨_, _, _, _, dz, _, rfl, _⟩ := trodVars_one hV
  obtain ⟨⟨hT, hG⟩, hP⟩ := table hL
  have hkeep0 := h0
  obtain ⟨name0, key0, sz0, l0, up0, ps0, ss0, st0, q0, ims0, es0, a1_0, a2_0, a3_0, a4_0, a5_0, rfl, hname0, hkey0, ⟨hm0, h1_0⟩, ⟨h2_0, hs0, hn0⟩, ⟨h3_0, ts0, ns0⟩, hq0, ⟨h4_0, ti0, ni0⟩, ⟨h5_0, te0, ne0⟩⟩ := open_Device (fun _ => rfl) (hval 0 36 v0 rfl rfl) h0
  have hlt0 : ∀ x ∈ p0, x.block < W.heap.size := fun x hx => DataW.TrodAll.lt (trodAll_mk1 hkeep0) x hx
  have hkeep1 := h1
  obtain ⟨a1, len1, cap1, rfl⟩ := okWide_slice Tryz.underlying33 (hval 1 33 v1 rfl rfl)
  obtain ⟨fuel1, hf1⟩ := h1
  obtain ⟨es1, ha1, ht1, hn1⟩ := arg_Images (v := .slice a1 len1 cap1) (by simpa only [Value.cells] using hf1) (fun _ => rfl)
  have hlt1 : ∀ x ∈ p1, x.block < W.heap.size := fun x hx => DataW.TrodAll.lt (trodAll_mk1 hkeep1) x hx
  clear hA0 hval0
  refine (law_trusted name0 key0 hname0 hkey0 sz0 l0 hm0 up0 ps0 hs0 hn0 ss0 ts0 ns0 st0 q0.x0 q0.x1 q0.x2 q0.x3 hq0.1 hq0.2.1 ims0 ti0 ni0 es0 te0 ne0 es1 ht1 hn1 a1_0 a2_0 a3_0 a4_0 a5_0 _ W h1_0 h2_0 h3_0 h4_0 h5_0 ha1 hT hG hP).mono fun e W' ⟨he, hb⟩ => ?_
  subst he
  exact ⟨_, rfl, _, _, _, [], _, _, hW', trodAll_mk1 (shut_bool Tryz.underlying4 _), trodAll_mk2 (Below.trod laidOut (by kernel_rfl) (of_decide_eq_true (by kernel_rfl)) hkeep0 hb hlt0) (Below.trod laidOut (by kernel_rfl) (of_decide_eq_true (by kernel_rfl)) hkeep1 hb hlt1), tab_back hb hV, hb.frame _, fun h => by cases h⟩
end Go.Proofs.YtnkaabgjfdbdoaaGreatDoor
