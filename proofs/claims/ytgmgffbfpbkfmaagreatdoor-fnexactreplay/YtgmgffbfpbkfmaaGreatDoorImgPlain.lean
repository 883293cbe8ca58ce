/- What ImagesOf answers, in plain words. -/
import Derived.Test.YtgmgffbfpbkfmaaGreatDoorLooksPlain
import Derived.Test.YtgmgffbfpbkfmaaGreatDoorRowEvent
import Derived.Test.YtgmgffbfpbkfmaaGreatDoorRowImage
namespace Go.Proofs.YtgmgffbfpbkfmaaGreatDoor
open Go.RowKit
open Go.Lib (hid)

/-- The images of events that are told after so many, where so many images stand already. -/
def imgGo : List EventD → Nat → List ImageD → List ImageD × Int × Int
  | [], _, im => (im, 0, -1)
  | e :: t, i, im =>
    if 0 ≤ e.x0 ∧ e.x0 ≤ 7 then
      if (nodeOf e.x1).1 = 0 then ([], 2, i) else
      if (looksO e.x1).1 = true then
        if (looksO e.x1).2.1 = im.length then
          if e.x0 = ((im.length % 8 : Nat) : Int) then imgGo t (i + 1) (im ++ [⟨bytesOf (looksO e.x1).2.2.1, (looksO e.x1).2.2.2⟩]) else ([], 4, i)
        else ([], 3, i)
      else imgGo t (i + 1) im
    else ([], 2, i)

def imgOut (es : List EventD) : List ImageD × Int × Int := if es.length ≤ 60 then imgGo es 0 [] else ([], 1, -1)

theorem imgGo_bad {es : List EventD} {i : Nat} {im : List ImageD} (hlt : i < es.length) (h : ¬ (0 ≤ es[i].x0 ∧ es[i].x0 ≤ 7)) : imgGo (es.drop i) i im = ([], 2, (i : Int)) := by
  rw [List.drop_eq_getElem_cons hlt]; unfold imgGo; rw [if_neg h]

theorem imgGo_kind {es : List EventD} {i : Nat} {im : List ImageD} (hlt : i < es.length) (h : 0 ≤ es[i].x0 ∧ es[i].x0 ≤ 7) (hk : (nodeOf es[i].x1).1 = 0) : imgGo (es.drop i) i im = ([], 2, (i : Int)) := by
  rw [List.drop_eq_getElem_cons hlt]; unfold imgGo; rw [if_pos h, if_pos hk]

theorem imgGo_no {es : List EventD} {i : Nat} {im : List ImageD} (hlt : i < es.length) (h : 0 ≤ es[i].x0 ∧ es[i].x0 ≤ 7) (hk : (nodeOf es[i].x1).1 ≠ 0) (hl : (looksO es[i].x1).1 = false) : imgGo (es.drop i) i im = imgGo (es.drop (i + 1)) (i + 1) im := by
  rw [List.drop_eq_getElem_cons hlt]; conv => lhs; unfold imgGo
  rw [if_pos h, if_neg hk, if_neg (by rw [hl]; decide)]

theorem imgGo_layer {es : List EventD} {i : Nat} {im : List ImageD} {l v : Int} {b : List UInt8} (hlt : i < es.length) (h : 0 ≤ es[i].x0 ∧ es[i].x0 ≤ 7) (hk : (nodeOf es[i].x1).1 ≠ 0) (hl : looksO es[i].x1 = (true, l, b, v)) (hn : l ≠ im.length) : imgGo (es.drop i) i im = ([], 3, (i : Int)) := by
  rw [List.drop_eq_getElem_cons hlt]; unfold imgGo
  rw [if_pos h, if_neg hk, hl, if_pos rfl, if_neg hn]

theorem imgGo_reg {es : List EventD} {i : Nat} {im : List ImageD} {v : Int} {b : List UInt8} (hlt : i < es.length) (h : 0 ≤ es[i].x0 ∧ es[i].x0 ≤ 7) (hk : (nodeOf es[i].x1).1 ≠ 0) (hl : looksO es[i].x1 = (true, (im.length : Int), b, v)) (hn : es[i].x0 ≠ ((im.length % 8 : Nat) : Int)) : imgGo (es.drop i) i im = ([], 4, (i : Int)) := by
  rw [List.drop_eq_getElem_cons hlt]; unfold imgGo
  rw [if_pos h, if_neg hk, hl, if_pos rfl, if_pos rfl, if_neg hn]

theorem imgGo_more {es : List EventD} {i : Nat} {im : List ImageD} {v : Int} {b : List UInt8} (hlt : i < es.length) (h : 0 ≤ es[i].x0 ∧ es[i].x0 ≤ 7) (hk : (nodeOf es[i].x1).1 ≠ 0) (hl : looksO es[i].x1 = (true, (im.length : Int), b, v)) (hn : es[i].x0 = ((im.length % 8 : Nat) : Int)) : imgGo (es.drop i) i im = imgGo (es.drop (i + 1)) (i + 1) (im ++ [⟨bytesOf b, v⟩]) := by
  rw [List.drop_eq_getElem_cons hlt]; conv => lhs; unfold imgGo
  rw [if_pos h, if_neg hk, hl, if_pos rfl, if_pos rfl, if_pos hn]

theorem imgGo_end {es : List EventD} {im : List ImageD} : imgGo (es.drop es.length) es.length im = (im, 0, -1) := by
  rw [List.drop_length]; rfl

theorem imgGo_few (es : List EventD) (i : Nat) (im : List ImageD) : (imgGo es i im).1.length ≤ im.length + es.length := by
  induction es generalizing i im with
  | nil => exact Nat.le_refl _
  | cons e t ih =>
    unfold imgGo
    split
    · split
      · exact Nat.zero_le _
      · split
        · split
          · split
            · refine Nat.le_trans (ih _ _) ?_
              simp; omega
            · exact Nat.zero_le _
          · exact Nat.zero_le _
        · refine Nat.le_trans (ih _ _) ?_
          simp
    · exact Nat.zero_le _

theorem imgOut_few (es : List EventD) : (imgOut es).1.length ≤ 60 := by
  unfold imgOut
  split
  · rename_i h
    refine Nat.le_trans (imgGo_few _ _ _) ?_
    simpa using h
  · exact Nat.zero_le _

/-- What both sides answer of a list of events. -/
def ImgPost (es : List EventD) (w : World) (e : Ending) (w' : World) : Prop :=
  ∃ sv, e = .returned (.tuple #[sv, .int .i64 (imgOut es).2.1, .int .i64 (imgOut es).2.2]) ∧ Below w.heap.size w w' ∧ w'.ownsRow w.heap.size 66 2 sv (imgOut es).1.length (flat encImage (imgOut es).1)

theorem none_images (w : World) : (w.alloc (.cells #[] 66)).ownsRow w.heap.size 66 2 (.slice (some ⟨w.heap.size, 0, none⟩) 0 0) 0 [] := World.ownsRow_made w #[] 0 (Nat.le_refl _) (Nat.zero_le _) rfl

theorem nil_images (w : World) (b : Nat) : w.ownsRow b 66 2 (.slice none 0 0) 0 [] := World.ownsRow_nil _ _ _ _

theorem imageInfo : (Tryz.prog.info? 66).map (fun i => (i.zero, i.size, i.bytes)) = some (some (.agg #[.string ⟨#[]⟩, .int .i64 0]), 2, 24) := by kernel_rfl

theorem wp_append_image {w : World} {ops : Array Oper} {rest : List Oper} {o : Oper} {a : Act} {Q : Exit → Act → World → Prop} (hgd : o.guard = none) (s x : Operand)
    (ho : o.op = .call { callee := .builtin .append, args := #[s, x], argTypes := #[46, 46] }) (base : Nat)
    (v : Value) (es : List ImageD) (hs : a.eval s = v) (hown : w.ownsRow base 66 2 v es.length (flat encImage es))
    (b : Nat) (c : Nat) (z : ByteArray) (y : Int) (hx : a.eval x = .slice (some ⟨b, 0, none⟩) 1 c) (h0 : w.cell? ⟨b, 0, none⟩ = some (.string z)) (h1 : w.cell? ⟨b, 1, none⟩ = some (.int .i64 y)) (hn : es.length ≤ 100000000) (hbase : base ≤ w.heap.size)
    (h : ∀ v' w', w'.ownsRow base 66 2 v' (es ++ [ImageD.mk z y]).length (flat encImage (es ++ [ImageD.mk z y])) → w.grownBy w' v.ownBlock → (v'.ownBlock = v.ownBlock ∨ v'.ownBlock = some w.heap.size) → wpList Tryz.prog ops Q rest (a.put o.dst v') w') : wpList Tryz.prog ops Q (o :: rest) a w := by
  obtain ⟨i0, hi0, hz0, hz1, hz2⟩ := info_parts imageInfo
  have hap : flat encImage (es ++ [ImageD.mk z y]) = flat encImage es ++ [.string z, .int .i64 y] := by rw [flat_append]; rfl
  have hle : (es ++ [ImageD.mk z y]).length = es.length + 1 := by simp
  rw [hap, hle] at h
  refine wp_append_where w hgd s x 46 ho base 66 i0 _ 2 24 Tryz.underlying46 hi0 hz0 hz1 hz2 rfl (by decide) v es.length _ hs hown ⟨b, 0, none⟩ c [.string z, .int .i64 y] hx rfl ?_ ?_ ?_ ?_ hbase h
  · intro j u hj
    match j, hj with
    | 0, hj => simp at hj; subst hj; exact h0
    | 1, hj => simp at hj; subst hj; exact h1
  · intro u hu
    simp at hu
    rcases hu with rfl | rfl <;> rfl
  · unfold maxLen; omega
  · omega
end Go.Proofs.YtgmgffbfpbkfmaaGreatDoor
