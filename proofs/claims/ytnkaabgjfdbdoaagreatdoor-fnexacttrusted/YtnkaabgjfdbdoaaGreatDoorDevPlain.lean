/- What DeviceOk answers, in plain words. -/
import Derived.Test.YtnkaabgjfdbdoaaGreatDoorPackFold
import Derived.Test.YtnkaabgjfdbdoaaGreatDoorPackNum
import Derived.Test.YtnkaabgjfdbdoaaGreatDoorPackRR
namespace Go.Proofs.YtnkaabgjfdbdoaaGreatDoor
open Go.RowKit
open Go.Lib (hid)

/-- Are these images, each right? -/
def imgsB (ims : List ImageD) : Bool := ims.all fun e => imgB e.x0.data.toList e.x1

theorem imgs_bad {ims : List ImageD} {i : Nat} (hi : i < ims.length) (h : imgB ims[i].x0.data.toList ims[i].x1 = false) : imgsB ims = false := by
  cases hr : imgsB ims with
  | false => rfl
  | true =>
    unfold imgsB at hr
    have := List.all_eq_true.1 hr ims[i] (List.getElem_mem hi)
    rw [h] at this
    cases this

theorem imgs_all {ims : List ImageD} (h : ∀ j (hj : j < ims.length), imgB ims[j].x0.data.toList ims[j].x1 = true) : imgsB ims = true := by
  unfold imgsB
  rw [List.all_eq_true]
  intro e he
  obtain ⟨j, hj, rfl⟩ := List.mem_iff_getElem.1 he
  exact h j hj

/-- A Device of a name, a Root and a Vault that are right or not, images, events and registers. -/
def devB (nb rb vb up : Bool) (ims : List ImageD) (es : List EventD) (regs : List (List UInt8)) : Bool :=
  nb && (rb && (vb && (decide (ims.length ≤ 16) && (imgsB ims && (if up = true then (foldOut es).2 && decide ((foldOut es).1 = regs) else decide (ims.length = 0) && decide (es.length = 0))))))

theorem devB_name {rb vb up : Bool} {ims : List ImageD} {es : List EventD} {regs : List (List UInt8)} : devB false rb vb up ims es regs = false := rfl
theorem devB_root {nb vb up : Bool} {ims : List ImageD} {es : List EventD} {regs : List (List UInt8)} : devB nb false vb up ims es regs = false := by unfold devB; cases nb <;> rfl
theorem devB_vault {nb rb up : Bool} {ims : List ImageD} {es : List EventD} {regs : List (List UInt8)} : devB nb rb false up ims es regs = false := by unfold devB; cases nb <;> cases rb <;> rfl
theorem devB_many {nb rb vb up : Bool} {ims : List ImageD} {es : List EventD} {regs : List (List UInt8)} (h : ¬ ims.length ≤ 16) : devB nb rb vb up ims es regs = false := by unfold devB; rw [decide_eq_false h]; cases nb <;> cases rb <;> cases vb <;> rfl
theorem devB_set {nb rb vb up : Bool} {ims : List ImageD} {es : List EventD} {regs : List (List UInt8)} (h : (decide (ims.length ≤ 16) && imgsB ims) = false) : devB nb rb vb up ims es regs = false := by
  unfold devB
  cases h1 : decide (ims.length ≤ 16) with
  | false => cases nb <;> cases rb <;> cases vb <;> rfl
  | true =>
    rw [h1] at h
    have h2 : imgsB ims = false := by simpa using h
    rw [h2]
    cases nb <;> cases rb <;> cases vb <;> rfl
theorem devB_imgs {nb rb vb up : Bool} {ims : List ImageD} {es : List EventD} {regs : List (List UInt8)} (h : imgsB ims = false) : devB nb rb vb up ims es regs = false := by unfold devB; rw [h]; cases nb <;> cases rb <;> cases vb <;> cases decide (ims.length ≤ 16) <;> rfl
theorem devB_long {nb rb vb up : Bool} {ims : List ImageD} {es : List EventD} {regs : List (List UInt8)} (h : ¬ es.length ≤ 60) : devB nb rb vb up ims es regs = false := by
  have h0 : ¬ es.length = 0 := by omega
  have hf : foldOut es = ([], false) := by unfold foldOut; rw [if_neg h]
  unfold devB
  rw [hf, decide_eq_false h0]
  cases nb <;> cases rb <;> cases vb <;> cases up <;> cases decide (ims.length ≤ 16) <;> cases imgsB ims <;> simp
theorem devB_down {ims : List ImageD} {es : List EventD} {regs : List (List UInt8)} (h : ims.length ≤ 16) (hi : imgsB ims = true) : devB true true true false ims es regs = (decide (ims.length = 0) && decide (es.length = 0)) := by
  unfold devB; rw [decide_eq_true h, hi]; rfl
theorem devB_up {ims : List ImageD} {es : List EventD} {regs : List (List UInt8)} (h : ims.length ≤ 16) (hi : imgsB ims = true) : devB true true true true ims es regs = ((foldOut es).2 && decide ((foldOut es).1 = regs)) := by
  unfold devB; rw [decide_eq_true h, hi]; rfl
end Go.Proofs.YtnkaabgjfdbdoaaGreatDoor
