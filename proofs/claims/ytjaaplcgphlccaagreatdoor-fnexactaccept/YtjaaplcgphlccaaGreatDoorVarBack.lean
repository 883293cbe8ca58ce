/- The table of kinds reads behind a call as it did before, where nothing below the heap's old end has changed. -/
import Derived.Test.YtjaaplcgphlccaaGreatDoorTabLaid
import Derived.Carry
import Derived.ChangeOld
import Derived.ChangeVars
namespace Go.Proofs.YtjaaplcgphlccaaGreatDoor
open Go.RowKit Go.WideElems Go.ChangeShapes

theorem laidOut : laidOutB Tryz.prog = true := by kernel_rfl

theorem tab_back {H : Type} {enc : TypeId × Value → H} {W W' : World} (hb : Below W.heap.size W W') {gs : List (DataW H)} {ps : List MemPlace}
    (hV : DataW.TrodVars enc Tryz.prog W (fun _ => true) ["loop.example/g00082/impl.termShapes"] gs ps) : DataW.TrodVars enc Tryz.prog W' (fun b => decide (b < W.heap.size)) ["loop.example/g00082/impl.termShapes"] gs ps := by
  have hlt := hV.lt
  obtain ⟨g, t, cs, fuel, d, p, rfl, h1, h2, h3, h4, rfl⟩ := trodVars_one hV
  obtain rfl := Option.some.inj (tab_global.symm.trans h1)
  obtain rfl := Option.some.inj ((show (Tryz.prog.globals[0]?).map (·.type) = some 116 by kernel_rfl).symm.trans h2)
  have hr : Tryz.prog.readableRec 116 = true := by kernel_rfl
  have hp : ∀ x ∈ p, x.block < W.heap.size := fun x hx => hlt x (List.mem_append_right _ hx)
  have h3' : W'.var? Tryz.prog "loop.example/g00082/impl.termShapes" = some cs := by
    have h3c := h3
    unfold World.var? at h3c ⊢
    rw [h1] at h3c ⊢
    simp only [Option.bind_some] at h3c ⊢
    have hg : 0 < W.heap.size := by
      cases hh : W.heap[0]? with
      | none => rw [hh] at h3c; cases h3c
      | some o => exact (Array.getElem?_eq_some_iff.1 hh).1
    rw [hb.block 0 hg]
    exact h3c
  exact trodVars_mk1 h1 h2 h3' (DataW.trod_stays (kids_book laidOut hr) (book_sized hr) (fun h => by cases h) ⟨of_decide_eq_true (by kernel_rfl), book_self _⟩ h4 (fun x hx => hb.same (hp x hx)) (fun x hx => by simpa using hp x hx))
end Go.Proofs.YtjaaplcgphlccaaGreatDoor
