/- THE LAW FnExactReplay HOLDS AT EVERY INPUT: for every list of events, texts that are shown and mask the code's Replay answers as the specification's Replay: the images, the code and the place; it writes into no argument and owns its answer (lists and texts of more than 1048576 in all are let by in the law's own first lines). The card ties the six listed variables to the program's text. No condition besides. -/
import Derived.Test.YtgmgffbfpbkfmaaGreatDoorCards
import Derived.Test.YtgmgffbfpbkfmaaGreatDoorTie
import Derived.Test.YtgmgffbfpbkfmaaGreatDoorVarBack
import Derived.Test.YtgmgffbfpbkfmaaGreatDoorArgEvent
import Derived.Test.YtgmgffbfpbkfmaaGreatDoorLawReplay
import Derived.ProofKit
import Derived.LaidMore
import Derived.ChangeVars
import Derived.OpenShut
import Derived.Stop.Joined
import Derived.SliceStrings
import Derived.Carry
import Derived.Lib.SmallJoins
import Derived.Lib.LaidTab
import Derived.ChangeSlices
import Derived.Stop.LaidErr
namespace Go.Proofs.YtgmgffbfpbkfmaaGreatDoor
open Go.ChangeShapes Go.WideShapes Go.ChangeAt Go.RowKit
open Go.ChangeMaps (open_string shut_string)

theorem own : ownKnob Tryz.prog.godebug = none := by kernel_rfl

theorem star : ("*" ++ "errors.errorString" : String) = "*errors.errorString" := by decide
theorem rowErr : ∀ u, Tryz.prog.typeName? 3 u = some "*errors.errorString" → u = 330 := fun u h =>
  typeName_ptr_named (nm := "errors.errorString") (by rw [star]; kernel_rfl) (by kernel_rfl) (by decide) u (by rw [star]; exact h)

/-- What the row's list gives: the table of powers of ten, the third of six, the two errors behind it, and the table of kinds. -/
theorem table {W : World} (h : laidMetH Tryz.prog Rows.fnExactReplayRow.laid W) : (Tab W ∧ 0 < W.heap.size) ∧ Num.Laid W := by
  rw [MakeChecks.laidMetH_plain _ _ _ (by kernel_rfl)] at h
  have h3 : laidMet Tryz.prog (("internal/strconv.uint64pow10", Lib.tabData .u64 Lib.pow10Tab) :: [("strconv.ErrRange", Rows.laid_strconv_ErrRange), ("strconv.ErrSyntax", Rows.laid_strconv_ErrSyntax), ("loop.example/g00082/impl.termShapes", Rows.laid_loop_example_g00082_impl_termShapes)]) W := h.tail.tail
  have h4 := h3.tail
  obtain ⟨ar, sr, hr, _⟩ := laid_sentinel (g := 3) (ti := 259) (tp := 330) (te := 332) (ts := 9) h4 (by kernel_rfl) (by kernel_rfl) Tryz.underlying259 rowErr Tryz.underlying330 Tryz.underlying332 rfl rfl Tryz.underlying9 (by kernel_rfl) (by kernel_rfl)
  obtain ⟨a2, s2, hs, _⟩ := laid_sentinel (g := 2) (ti := 259) (tp := 330) (te := 332) (ts := 9) h4.tail (by kernel_rfl) (by kernel_rfl) Tryz.underlying259 rowErr Tryz.underlying330 Tryz.underlying332 rfl rfl Tryz.underlying9 (by kernel_rfl) (by kernel_rfl)
  refine ⟨tab_laid (Lib.laidMet.reads h4.tail.tail (List.mem_singleton.2 rfl)), ⟨Lib.tabIs_of_head (g := 1) (t := 310) (e := 284) (n := 20) (by kernel_rfl) (by kernel_rfl) Tryz.underlying310 Tryz.underlying284 (by kernel_rfl) (by kernel_rfl) h3, ⟨_, _, hr⟩, ⟨_, _, hs⟩⟩⟩

theorem door_met (os : Os) (args : Array Value) : laidMetH Tryz.prog Rows.fnExactReplayRow.laid ((World.doorLaid Tryz.prog 400 os).forCall (fun _ _ => 0) ⟨#[], args, []⟩).memory :=
  laidMetH_of_parts3 (fuel := 8) (laidMet_of_run' 8 (by kernel_rfl) (by kernel_rfl)) (by kernel_rfl) (by kernel_rfl)

theorem arg_texts {H : Type} {enc : TypeId × Value → H} {W : World} {base fuel : Nat} {spare : Nat → Bool} {held : Bool} {v : Value} {x : DataW H × List MemPlace}
    (hf : DataW.trod enc Tryz.prog W base spare held fuel 25 [v] = some x) (hsp : ∀ k, spare k = true) : ∃ ps : List (List UInt8), ArgAt W v ps ∧ (∀ p ∈ ps, p.length ≤ 9223372036854775807) ∧ ps.length ≤ 9223372036854775807 := by
  rcases open_strings Tryz.underlying25 Tryz.underlying9 cells_string hf with ⟨hcs, _⟩ | ⟨ad, len', cap', ss, hcs, _, hl, hm, hz, _, hcell, hsz⟩
  · injection hcs with hcs _
    rw [hcs]
    exact ⟨[], ⟨none, 0, rfl, fun i hi => absurd hi (by simp)⟩, by simp, by simp⟩
  · injection hcs with hcs _
    rw [hcs]
    rw [if_pos (hsp _)] at hz
    have hlen : ((ss.take len').map (·.data.toList)).length = len' := by simp; omega
    refine ⟨(ss.take len').map (·.data.toList), ⟨some ad, cap', by rw [hlen], fun i hi => ⟨ad, rfl, ?_, ?_⟩⟩, ?_, ?_⟩
    · rw [hlen] at hi
      have := World.block_lt_of_cell? W _ (hcell i (by omega))
      rw [add_block] at this
      exact this
    · rw [hlen] at hi
      rw [hcell i (by omega), List.getElem_map, List.getElem_take]
      simp [List.getD_eq_getElem?_getD, List.getElem?_eq_getElem (show i < ss.length by omega)]
    · intro p hp
      obtain ⟨s, hs, rfl⟩ := List.mem_map.1 hp
      have := hsz s (List.mem_of_mem_take hs)
      unfold maxLen at this
      simpa using this
    · rw [hlen]
      unfold maxLen at hm
      omega

set_option maxRecDepth 100000 in
theorem lifted (os : Os) (started : os.Started) (H : Type) (enc : TypeId × Value → H) :
    ReturnsInHanded {} Tryz.checked os 9 .any (fun w args => (Rows.fnExactReplaySpec.pre enc Tryz.prog Tryz.f9 [] false w args ∧ laidMetH Tryz.prog Rows.fnExactReplayRow.laid w) ∧ sizedMet enc Tryz.prog Tryz.f9 (OpenSpec.ofChange Rows.fnExactReplaySpec) false w args)
      (Rows.fnExactReplaySpec.post enc Tryz.prog Tryz.f9 false true false false) := by
  refine returnsInHanded_of_change_and (C := Tryz.checked) (X := fun w _ => laidMetH Tryz.prog Rows.fnExactReplayRow.laid w) (fun _ _ _ hh h => h.of_heap hh) own started (by kernel_rfl) Tryz.func9
    (ChangeSpec.witness_shaped (enc := enc) (C := Tryz.checked) (os := os) (X := fun w _ => laidMetH Tryz.prog Rows.fnExactReplayRow.laid w) false (World.doorLaid Tryz.prog 400 os) #[.slice none 0 0, .slice none 0 0, .int .i64 0] 8 rfl (World.shaped_of_RefB (by kernel_rfl) (by kernel_rfl)) (by kernel_rfl) (by kernel_rfl) (by kernel_rfl) (door_met os _)) ?_
  intro W base args ds gs before hval0 hW _ _ hL _
  have hval : ∀ (j : Nat) t v, Tryz.f9.params[j]? = some t → args[j]? = some v → Value.okWide Tryz.prog W .any base t v := hval0
  have hW' := hW
  obtain ⟨p, q, hA0, hV, rfl, hfz, hnd⟩ := hW
  have hA : DataW.TrodAll enc Tryz.prog W 0 (fun _ => true) true Tryz.f9.params.toList args.toList ds p := hA0
  rw [Tryz.params9] at hA hval
  obtain ⟨v0, v1, v2, d0, d1, d2, p0, p1, p2, rfl, rfl, rfl, h0, h1, h2⟩ := trodAll_three hA
  obtain ⟨_, _, _, _, dz, _, rfl, _⟩ := trodVars_one hV
  obtain ⟨⟨hT, hG⟩, hP⟩ := table hL
  have hkeep0 := h0
  obtain ⟨a0, len0, cap0, rfl⟩ := okWide_slice Tryz.underlying34 (hval 0 34 v0 rfl rfl)
  obtain ⟨fuel0, hf0⟩ := h0
  obtain ⟨es0, ha0, ht0, hn0⟩ := arg_Events (v := .slice a0 len0 cap0) (by simpa only [Value.cells] using hf0) (fun _ => rfl)
  have hlt0 : ∀ x ∈ p0, x.block < W.heap.size := fun x hx => DataW.TrodAll.lt (trodAll_mk1 hkeep0) x hx
  have hkeep1 := h1
  obtain ⟨a1, len1, cap1, rfl⟩ := okWide_slice Tryz.underlying25 (hval 1 25 v1 rfl rfl)
  obtain ⟨fuel1, hf1⟩ := h1
  obtain ⟨ps1, ha1, hs1, hn1⟩ := arg_texts (v := .slice a1 len1 cap1) (by simpa only [Value.cells] using hf1) (fun _ => rfl)
  have hlt1 : ∀ x ∈ p1, x.block < W.heap.size := fun x hx => DataW.TrodAll.lt (trodAll_mk1 hkeep1) x hx
  obtain ⟨n2, rfl, rfl, rfl, hw2⟩ := open_int Tryz.underlying2 (hval 2 2 v2 rfl rfl) h2
  have hb2 : -9223372036854775808 ≤ n2 ∧ n2 ≤ 9223372036854775807 := by
    have h := hw2
    simp [Lit.wf] at h
    have h1 : IntKind.i64.min = -9223372036854775808 := rfl
    have h2 : IntKind.i64.max = 9223372036854775807 := rfl
    omega
  clear hA0 hval0
  refine (law_replay es0 ht0 hn0 ps1 hs1 hn1 n2 _ _ W ha0 ha1 hT hG hP).mono fun e W' ⟨he, hb⟩ => ?_
  subst he
  exact ⟨_, rfl, _, _, _, [], _, _, hW', trodAll_mk1 (shut_bool Tryz.underlying4 _), trodAll_mk3 (Below.trod laidOut (by kernel_rfl) (of_decide_eq_true (by kernel_rfl)) hkeep0 hb hlt0) (Below.trod laidOut (by kernel_rfl) (of_decide_eq_true (by kernel_rfl)) hkeep1 hb hlt1) (shut_int Tryz.underlying2 hw2), tab_back hb hV, hb.frame _, fun h => by cases h⟩

theorem said : Rows.FnExactReplaySaid :=
  OpenClaim.holds_of_wide 9 Tryz.f9 rfl rfl rfl rfl rfl rfl rfl ⟨rfl, rfl, rfl, rfl, rfl⟩ rfl rfl rfl rfl rfl (by kernel_rfl) Tryz.func9 (by kernel_rfl)
    (of_decide_eq_true (by kernel_rfl)) (by unfold Func.isWrapper; first | (rw [if_pos (by decide +kernel)]; kernel_rfl) | (rw [if_neg (by decide +kernel)]; exact ⟨rfl, rfl⟩))
    (fun os started H enc _ => lifted os started H enc)

theorem plain (f : FuncId) (fn : Func) (hf : Tryz.pinned.checked.prog.funcNamed "loop.example/g00082/laws.FnExactReplay" = some f) (hfn : Tryz.pinned.checked.prog.funcs[f]? = some fn) :
    true = Tryz.pinned.checked.prog.looks [] ∧ ∀ (j : Nat) t, fn.params[j]? = some t → Tryz.pinned.checked.prog.wantsStandIn t = false := by
  obtain rfl : f = 9 := Option.some.inj ((show Tryz.prog.funcNamed "loop.example/g00082/laws.FnExactReplay" = some 9 by kernel_rfl).symm.trans hf) |>.symm
  obtain rfl : fn = Tryz.f9 := (Option.some.inj (Tryz.func9.symm.trans hfn)).symm
  refine ⟨by kernel_rfl, fun j t ht => ?_⟩
  rw [Tryz.params9] at ht
  have hm := Array.mem_of_getElem? ht
  simp only [Array.mem_def, List.mem_cons, List.not_mem_nil, or_false] at hm
  rcases hm with rfl | rfl | rfl
  · exact (show Tryz.prog.wantsStandIn 34 = false by kernel_rfl)
  · exact (show Tryz.prog.wantsStandIn 25 = false by kernel_rfl)
  · exact (show Tryz.prog.wantsStandIn 2 = false by kernel_rfl)

/-- THE CARD. -/
theorem card : Rows.FnExactReplayCardSaid :=
  Claim7.holds_tied_plain_at .later [] _ _ _ _ said (fun _ h => by cases h) (by kernel_rfl) (fun _ h => by cases h) fnExactReplay_row_tie rfl ⟨rfl, rfl⟩ (by kernel_rfl) rfl plain (by kernel_rfl)
#print axioms card
end Go.Proofs.YtgmgffbfpbkfmaaGreatDoor
