/- THE LAW FnExactNvPut HOLDS AT EVERY INPUT: for every Nv, numbers and cut the code's NvPut answers as the specification's NvPut, field by field, writes into no argument and owns its answer (lists of more than 1048576 numbers are let by in the law's own first lines). No condition besides. -/
import Derived.Test.YtdkleogklfgafaaRows
import Derived.Test.YtdkleogklfgafaaLawNvPut
import Derived.ProofKit
import Derived.LaidMore
import Derived.OpenShut
import Derived.Carry
import Derived.Lib.SmallJoins
namespace Go.Proofs.Ytdkleogklfgafaa
open Go.ChangeShapes Go.WideShapes Go.ChangeAt Go.RowKit

theorem own : ownKnob Try.prog.godebug = none := by kernel_rfl
theorem laidOut : laidOutB Try.prog = true := by kernel_rfl
theorem cells_int : Try.prog.cellsOf 2 = 1 := by kernel_rfl

theorem arg_ints {H : Type} {enc : TypeId × Value → H} {W : World} {base fuel : Nat} {spare : Nat → Bool} {held : Bool} {v : Value} {x : DataW H × List MemPlace}
    (h : DataW.trod enc Try.prog W base spare held fuel 24 [v] = some x) (hsp : ∀ k, spare k = true) : ∃ l : List Int, l.length ≤ maxLen ∧ ArgInts W v l := by
  rcases open_ints Try.underlying24 Try.underlying2 cells_int h with ⟨hcs, _⟩ | ⟨ad, len', cap', zs, hcs, _, hl, hm, hz, _, hcell, _⟩
  · injection hcs with hcs _
    rw [hcs]
    exact ⟨[], Nat.zero_le _, none, 0, rfl, fun i hi => absurd hi (by simp)⟩
  · injection hcs with hcs _
    rw [hcs]
    rw [if_pos (hsp _)] at hz
    have hlen : (zs.take len').length = len' := by simp; omega
    refine ⟨zs.take len', by rw [hlen]; exact Nat.le_trans hl hm, some ad, cap', by rw [hlen], fun i hi => ⟨ad, rfl, ?_, ?_⟩⟩
    · rw [hlen] at hi
      have := World.block_lt_of_cell? W _ (hcell i (by omega))
      rw [add_block] at this
      exact this
    · rw [hlen] at hi
      rw [hcell i (by omega), List.getElem_take]
      simp [List.getD_eq_getElem?_getD, List.getElem?_eq_getElem (show i < zs.length by omega)]

set_option maxRecDepth 100000 in
theorem lifted (os : Os) (started : os.Started) (H : Type) (enc : TypeId × Value → H) :
    ReturnsInHanded {} Try.checked os 6 .any (Rows.fnExactNvPutSpec.pre6 enc Try.prog Try.f6 Rows.fnExactNvPutRow.domain false) (Rows.fnExactNvPutSpec.post enc Try.prog Try.f6 false true false false) := by
  refine returnsInHanded_of_change (C := Try.checked) own started (by kernel_rfl) Try.func6
    (ChangeSpec.witness6 (enc := enc) (C := Try.checked) false ⟨#[], #[.agg #[.int .i64 0, .slice none 0 0], .slice none 0 0, .int .i64 0], []⟩ 8 (by kernel_rfl) (by kernel_rfl) (by kernel_rfl) (by kernel_rfl)) ?_
  intro W base args ds gs before hval0 hW hcnd _
  have hval : ∀ (j : Nat) t v, Try.f6.params[j]? = some t → args[j]? = some v → Value.okWide Try.prog W .any base t v := hval0
  have hW' := hW
  obtain ⟨p, q, hA0, hV, rfl, hfz, hnd⟩ := hW
  have hA : DataW.TrodAll enc Try.prog W 0 (fun _ => true) true Try.f6.params.toList args.toList ds p := hA0
  rw [Try.params6] at hA hval
  obtain ⟨v0, v1, v2, d0, d1, d2, p0, p1, p2, rfl, rfl, rfl, h0, h1, h2⟩ := trodAll_three hA
  obtain ⟨rfl, rfl⟩ := trodVars_none hV
  have hkeep := h0
  have hkeep1 := h1
  obtain ⟨x0, x1, y0, y1, m, rfl, rfl, rfl, hy0, hy1⟩ := Joins.open_agg2 (show Try.prog.underlying 35 = some (.struct #[_, _]) from Try.underlying35) (by kernel_rfl) (by kernel_rfl) (hval 0 35 _ rfl rfl) h0
  obtain ⟨s, hs, _, _⟩ := DataW.trod_int Try.underlying2 hy0
  injection hs with hs _
  subst hs
  obtain ⟨l, hlm, ha⟩ := arg_ints hy1 (fun _ => rfl)
  obtain ⟨a1, len, cap, rfl⟩ := okWide_slice Try.underlying24 (hval 1 24 v1 rfl rfl)
  obtain ⟨fuel, hf⟩ := h1
  obtain ⟨vs, _, hb⟩ := arg_ints (v := .slice a1 len cap) (by simpa only [Value.cells] using hf) (fun _ => rfl)
  obtain ⟨cnt, rfl, rfl, rfl, hwc⟩ := open_int Try.underlying2 (hval 2 2 v2 rfl rfl) h2
  have hcn : cnt ≤ 9223372036854775807 := by
    have h := hwc
    simp [Lit.wf] at h
    have h2 : IntKind.i64.max = 9223372036854775807 := rfl
    omega
  clear hA0 hval0 h0
  refine (law_put_calls s l vs hlm cnt hcn _ _ W ha hb).mono fun e W' ⟨he, hb⟩ => ?_
  subst he
  have hlt : ∀ x ∈ y0.2 ++ y1.2, x.block < W.heap.size := fun x hx => DataW.TrodAll.lt (trodAll_mk1 hkeep) x hx
  have hlt1 : ∀ x ∈ p1, x.block < W.heap.size := fun x hx => DataW.TrodAll.lt (trodAll_mk1 hkeep1) x hx
  exact ⟨_, rfl, _, _, _, [], _, [], hW', trodAll_mk1 (shut_bool Try.underlying4 _), trodAll_mk3 (Below.trod laidOut (by kernel_rfl) (of_decide_eq_true (by kernel_rfl)) hkeep hb hlt) (Below.trod laidOut (by kernel_rfl) (of_decide_eq_true (by kernel_rfl)) hkeep1 hb hlt1) (shut_int Try.underlying2 hwc), rfl, hb.frame _, fun h => by cases h⟩

theorem said : Rows.FnExactNvPutSaid :=
  OpenClaim.holds_of_wide 6 Try.f6 rfl rfl rfl rfl rfl rfl rfl ⟨rfl, rfl, rfl, rfl, rfl⟩ rfl rfl rfl rfl rfl (by kernel_rfl) Try.func6 (by kernel_rfl)
    (of_decide_eq_true (by kernel_rfl)) (by unfold Func.isWrapper; first | (rw [if_pos (by decide +kernel)]; kernel_rfl) | (rw [if_neg (by decide +kernel)]; exact ⟨rfl, rfl⟩))
    (fun os started H enc _ => lifted os started H enc)
#print axioms said
end Go.Proofs.Ytdkleogklfgafaa
