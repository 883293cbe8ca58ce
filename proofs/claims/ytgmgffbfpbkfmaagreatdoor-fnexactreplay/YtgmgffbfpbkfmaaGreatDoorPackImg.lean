/- Laid together: ImgPlain, ImgSpec, ImgLeaf, IfcTest, ImgRepl, ImgImpl. -/
import Derived.Test.YtgmgffbfpbkfmaaGreatDoorLooksPlain
import Derived.Test.YtgmgffbfpbkfmaaGreatDoorRowEvent
import Derived.Test.YtgmgffbfpbkfmaaGreatDoorRowImage
import Derived.Test.YtgmgffbfpbkfmaaGreatDoorLooksBoth
import Derived.Test.YtgmgffbfpbkfmaaGreatDoorFaceKind
import Derived.Test.YtgmgffbfpbkfmaaGreatDoorFlatRow
import Derived.Test.YtgmgffbfpbkfmaaGreatDoorFacePartsS
import Derived.Test.YtgmgffbfpbkfmaaGreatDoorAppendWhere
import Derived.Test.YtgmgffbfpbkfmaaGreatDoorImplFace

namespace Go.Proofs.YtgmgffbfpbkfmaaGreatDoor
open Go.RowKit
open Go.Lib (hid)

/-- The images of events that are told after so many, where so many images stand already. -/
def imgGo : List EventD → Nat → List ImageD → List ImageD × Int × Int
  | [], _, im => (im, 0, -1)
  | e :: t, i, im =>
    if 0 ≤ e.x0 ∧ e.x0 ≤ 7 then
      if (nodeOf e.x1).1 = 0 then ([], 2, i) else
      if (looksO e.x1).1 = true then
        if (looksO e.x1).2.1 = im.length then
          if e.x0 = ((im.length % 8 : Nat) : Int) then imgGo t (i + 1) (im ++ [⟨bytesOf (looksO e.x1).2.2.1, (looksO e.x1).2.2.2⟩]) else ([], 4, i)
        else ([], 3, i)
      else imgGo t (i + 1) im
    else ([], 2, i)

def imgOut (es : List EventD) : List ImageD × Int × Int := if es.length ≤ 60 then imgGo es 0 [] else ([], 1, -1)

theorem imgGo_bad {es : List EventD} {i : Nat} {im : List ImageD} (hlt : i < es.length) (h : ¬ (0 ≤ es[i].x0 ∧ es[i].x0 ≤ 7)) : imgGo (es.drop i) i im = ([], 2, (i : Int)) := by
  rw [List.drop_eq_getElem_cons hlt]; unfold imgGo; rw [if_neg h]

theorem imgGo_kind {es : List EventD} {i : Nat} {im : List ImageD} (hlt : i < es.length) (h : 0 ≤ es[i].x0 ∧ es[i].x0 ≤ 7) (hk : (nodeOf es[i].x1).1 = 0) : imgGo (es.drop i) i im = ([], 2, (i : Int)) := by
  rw [List.drop_eq_getElem_cons hlt]; unfold imgGo; rw [if_pos h, if_pos hk]

theorem imgGo_no {es : List EventD} {i : Nat} {im : List ImageD} (hlt : i < es.length) (h : 0 ≤ es[i].x0 ∧ es[i].x0 ≤ 7) (hk : (nodeOf es[i].x1).1 ≠ 0) (hl : (looksO es[i].x1).1 = false) : imgGo (es.drop i) i im = imgGo (es.drop (i + 1)) (i + 1) im := by
  rw [List.drop_eq_getElem_cons hlt]; conv => lhs; unfold imgGo
  rw [if_pos h, if_neg hk, if_neg (by rw [hl]; decide)]

theorem imgGo_layer {es : List EventD} {i : Nat} {im : List ImageD} {l v : Int} {b : List UInt8} (hlt : i < es.length) (h : 0 ≤ es[i].x0 ∧ es[i].x0 ≤ 7) (hk : (nodeOf es[i].x1).1 ≠ 0) (hl : looksO es[i].x1 = (true, l, b, v)) (hn : l ≠ im.length) : imgGo (es.drop i) i im = ([], 3, (i : Int)) := by
  rw [List.drop_eq_getElem_cons hlt]; unfold imgGo
  rw [if_pos h, if_neg hk, hl, if_pos rfl, if_neg hn]

theorem imgGo_reg {es : List EventD} {i : Nat} {im : List ImageD} {v : Int} {b : List UInt8} (hlt : i < es.length) (h : 0 ≤ es[i].x0 ∧ es[i].x0 ≤ 7) (hk : (nodeOf es[i].x1).1 ≠ 0) (hl : looksO es[i].x1 = (true, (im.length : Int), b, v)) (hn : es[i].x0 ≠ ((im.length % 8 : Nat) : Int)) : imgGo (es.drop i) i im = ([], 4, (i : Int)) := by
  rw [List.drop_eq_getElem_cons hlt]; unfold imgGo
  rw [if_pos h, if_neg hk, hl, if_pos rfl, if_pos rfl, if_neg hn]

theorem imgGo_more {es : List EventD} {i : Nat} {im : List ImageD} {v : Int} {b : List UInt8} (hlt : i < es.length) (h : 0 ≤ es[i].x0 ∧ es[i].x0 ≤ 7) (hk : (nodeOf es[i].x1).1 ≠ 0) (hl : looksO es[i].x1 = (true, (im.length : Int), b, v)) (hn : es[i].x0 = ((im.length % 8 : Nat) : Int)) : imgGo (es.drop i) i im = imgGo (es.drop (i + 1)) (i + 1) (im ++ [⟨bytesOf b, v⟩]) := by
  rw [List.drop_eq_getElem_cons hlt]; conv => lhs; unfold imgGo
  rw [if_pos h, if_neg hk, hl, if_pos rfl, if_pos rfl, if_pos hn]

theorem imgGo_end {es : List EventD} {im : List ImageD} : imgGo (es.drop es.length) es.length im = (im, 0, -1) := by
  rw [List.drop_length]; rfl

theorem imgGo_few (es : List EventD) (i : Nat) (im : List ImageD) : (imgGo es i im).1.length ≤ im.length + es.length := by
  induction es generalizing i im with
  | nil => exact Nat.le_refl _
  | cons e t ih =>
    unfold imgGo
    split
    · split
      · exact Nat.zero_le _
      · split
        · split
          · split
            · refine Nat.le_trans (ih _ _) ?_
              simp; omega
            · exact Nat.zero_le _
          · exact Nat.zero_le _
        · refine Nat.le_trans (ih _ _) ?_
          simp
    · exact Nat.zero_le _

theorem imgOut_few (es : List EventD) : (imgOut es).1.length ≤ 60 := by
  unfold imgOut
  split
  · rename_i h
    refine Nat.le_trans (imgGo_few _ _ _) ?_
    simpa using h
  · exact Nat.zero_le _

/-- What both sides answer of a list of events. -/
def ImgPost (es : List EventD) (w : World) (e : Ending) (w' : World) : Prop :=
  ∃ sv, e = .returned (.tuple #[sv, .int .i64 (imgOut es).2.1, .int .i64 (imgOut es).2.2]) ∧ Below w.heap.size w w' ∧ w'.ownsRow w.heap.size 66 2 sv (imgOut es).1.length (flat encImage (imgOut es).1)

theorem none_images (w : World) : (w.alloc (.cells #[] 66)).ownsRow w.heap.size 66 2 (.slice (some ⟨w.heap.size, 0, none⟩) 0 0) 0 [] := World.ownsRow_made w #[] 0 (Nat.le_refl _) (Nat.zero_le _) rfl

theorem nil_images (w : World) (b : Nat) : w.ownsRow b 66 2 (.slice none 0 0) 0 [] := World.ownsRow_nil _ _ _ _

theorem imageInfo : (Tryz.prog.info? 66).map (fun i => (i.zero, i.size, i.bytes)) = some (some (.agg #[.string ⟨#[]⟩, .int .i64 0]), 2, 24) := by kernel_rfl

theorem wp_append_image {w : World} {ops : Array Oper} {rest : List Oper} {o : Oper} {a : Act} {Q : Exit → Act → World → Prop} (hgd : o.guard = none) (s x : Operand)
    (ho : o.op = .call { callee := .builtin .append, args := #[s, x], argTypes := #[46, 46] }) (base : Nat)
    (v : Value) (es : List ImageD) (hs : a.eval s = v) (hown : w.ownsRow base 66 2 v es.length (flat encImage es))
    (b : Nat) (c : Nat) (z : ByteArray) (y : Int) (hx : a.eval x = .slice (some ⟨b, 0, none⟩) 1 c) (h0 : w.cell? ⟨b, 0, none⟩ = some (.string z)) (h1 : w.cell? ⟨b, 1, none⟩ = some (.int .i64 y)) (hn : es.length ≤ 100000000) (hbase : base ≤ w.heap.size)
    (h : ∀ v' w', w'.ownsRow base 66 2 v' (es ++ [ImageD.mk z y]).length (flat encImage (es ++ [ImageD.mk z y])) → w.grownBy w' v.ownBlock → (v'.ownBlock = v.ownBlock ∨ v'.ownBlock = some w.heap.size) → wpList Tryz.prog ops Q rest (a.put o.dst v') w') : wpList Tryz.prog ops Q (o :: rest) a w := by
  obtain ⟨i0, hi0, hz0, hz1, hz2⟩ := info_parts imageInfo
  have hap : flat encImage (es ++ [ImageD.mk z y]) = flat encImage es ++ [.string z, .int .i64 y] := by rw [flat_append]; rfl
  have hle : (es ++ [ImageD.mk z y]).length = es.length + 1 := by simp
  rw [hap, hle] at h
  refine wp_append_where w hgd s x 46 ho base 66 i0 _ 2 24 Tryz.underlying46 hi0 hz0 hz1 hz2 rfl (by decide) v es.length _ hs hown ⟨b, 0, none⟩ c [.string z, .int .i64 y] hx rfl ?_ ?_ ?_ ?_ hbase h
  · intro j u hj
    match j, hj with
    | 0, hj => simp at hj; subst hj; exact h0
    | 1, hj => simp at hj; subst hj; exact h1
  · intro u hu
    simp at hu
    rcases hu with rfl | rfl <;> rfl
  · unfold maxLen; omega
  · omega
end Go.Proofs.YtgmgffbfpbkfmaaGreatDoor

namespace Go.Proofs.YtgmgffbfpbkfmaaGreatDoor
open Go.RowKit
open Go.Lib (hid)

theorem in_anyI (n a b : Int) (w : World) :
    Calls Tryz.prog 87 #[.int .i64 n, .int .i64 a, .int .i64 b] w fun e w' => e = .returned (.bool (decide (a ≤ n ∧ n ≤ b))) ∧ w' = w := by
  by_cases h0 : a ≤ n
  · by_cases h1 : n ≤ b
    · go_enter Tryz.func87, Tryz.ntmps87
      go_wp2
      go_ret
      exact ⟨by simp [h0, h1], rfl⟩
    · go_enter Tryz.func87, Tryz.ntmps87
      go_wp2
      go_ret
      exact ⟨by simp [h1], rfl⟩
  · go_enter Tryz.func87, Tryz.ntmps87
    go_wp2
    go_ret
    exact ⟨by simp; omega, rfl⟩

set_option maxRecDepth 20000 in
set_option maxHeartbeats 4000000 in
theorem img_spec (es : List EventD) (hs : ∀ e ∈ es, e.x1.size ≤ 1048576) (hn : es.length ≤ 1048576) (a : Value) (w : World) (ha : FRow encEvent 2 w a es) :
    Calls Tryz.prog 31 #[a] w (ImgPost es w) := by
  unfold ImgPost
  have HA := hid ha
  obtain ⟨p, c, rfl, _⟩ := ha
  have HS := hid hs
  clear hs
  obtain ⟨w1, hw1⟩ : ∃ W, W = w.alloc (.cells #[] 66) := ⟨_, rfl⟩
  have HB1 : Hid (Below w.heap.size w w1) := hid (by rw [hw1]; exact (Below.refl _ _).alloc (Nat.le_refl _) _)
  have HN1 : Hid (w1.ownsRow w.heap.size 66 2 (.slice (some ⟨w.heap.size, 0, none⟩) 0 0) 0 []) := hid (by rw [hw1]; exact none_images w)
  have hz1 : w1.heap.size = w.heap.size + 1 := by rw [hw1]; simp
  have HW1 := hid hw1
  have HZ1 := hid hz1
  clear hw1 hz1
  by_cases h60 : es.length ≤ 60
  · have HE0 : Hid (imgGo (es.drop 0) 0 [] = imgOut es) := hid (by rw [List.drop_zero]; unfold imgOut; rw [if_pos h60])
    go_enter Tryz.func31, Tryz.ntmps31
    go_wp2
    go_loopw [6, 7] (fun out iv wr => ∃ i : Nat, ∃ im : List ImageD, i ≤ es.length ∧ im.length ≤ i ∧ iv = .int .i64 i ∧ Below w1.heap.size w1 wr ∧ Hid (wr.ownsRow w1.heap.size 66 2 out im.length (flat encImage im)) ∧ Hid (imgGo (es.drop i) i im = imgOut es)) (fun _ iv _ => es.length - (RowKit.intOf iv).toNat)
    case atStart => exact ⟨0, [], Nat.zero_le _, Nat.zero_le _, rfl, by rw [← HW1.out]; exact (Below.refl _ _).alloc (Nat.le_refl _) _, hid (by rw [← HW1.out, ← HZ1.out]; exact none_images w1), HE0⟩
    case round =>
      obtain ⟨i, im, hi, him, rfl, hbel, HO, HR⟩ := hrel
      have HB := hid hbel
      have HBW : Hid (Below w.heap.size w wr) := hid (HB1.out.trans (hbel.mono HB1.out.size))
      have HNW := hid (own_below HN1.out hbel)
      obtain ⟨m, hm⟩ : ∃ m, m = im.length := ⟨_, rfl⟩
      have HM := hid hm
      rw [← hm] at him HO
      have hsl : ∃ ip ic, u6 = Value.slice ip m ic := by
        obtain ⟨ip, ic, h, _⟩ := row_of_own encImage_len (by rw [HM.out] at HO; exact HO.out)
        exact ⟨ip, ic, by rw [h, HM.out]⟩
      obtain ⟨ip, ic, rfl⟩ := hsl
      clear hm
      by_cases hlt : i < es.length
      · have hne : es ≠ [] := fun h => by rw [h] at hlt; cases hlt
        obtain ⟨p', c', hv, _, hp⟩ := HA.out
        obtain ⟨rfl, rfl⟩ : p = p' ∧ c = c' := by injection hv with h1 h2 h3; exact ⟨h1, by omega⟩
        obtain ⟨g, o, rfl, hg, hc⟩ := hp hne
        clear hv hp
        have b1 : (0 : Int) ≤ (i : Int) := by omega
        have b2 : (i : Int) < (es.length : Int) := by omega
        have hgr : g < wr.heap.size := Nat.lt_of_lt_of_le hg HBW.out.size
        have K0 := hid (fun (W : World) (hW : Below wr.heap.size wr W) => ((hW.cell (p := ⟨g, o + i * 2, none⟩) hgr).trans ((HBW.out.cell (p := ⟨g, o + i * 2, none⟩) hg).trans (hc i hlt 0 (by decide))) : W.cell? ⟨g, o + i * 2, none⟩ = some (.int .i64 es[i].x0)))
        have K1 := hid (fun (W : World) (hW : Below wr.heap.size wr W) => ((hW.cell (p := ⟨g, o + i * 2 + 1, none⟩) hgr).trans ((HBW.out.cell (p := ⟨g, o + i * 2 + 1, none⟩) hg).trans (hc i hlt 1 (by decide))) : W.cell? ⟨g, o + i * 2 + 1, none⟩ = some (.string es[i].x1)))
        clear hc
        have HSY := hid (HS.out es[i] (List.getElem_mem hlt))
        have GB := hid (fun h => imgGo_bad (es := es) (i := i) (im := im) hlt h)
        have GK := hid (fun h hk => imgGo_kind (es := es) (i := i) (im := im) hlt h hk)
        have GN := hid (fun h hk hl => imgGo_no (es := es) (i := i) (im := im) hlt h hk hl)
        have GL := hid (fun l v b h hk hl hn => imgGo_layer (es := es) (i := i) (im := im) (l := l) (v := v) (b := b) hlt h hk hl hn)
        have GR := hid (fun v b h hk hl hn => imgGo_reg (es := es) (i := i) (im := im) (v := v) (b := b) hlt h hk hl hn)
        have GM := hid (fun v b h hk hl hn => imgGo_more (es := es) (i := i) (im := im) (v := v) (b := b) hlt h hk hl hn)
        generalize es[i].x0 = x at *
        generalize es[i].x1 = y at *
        rw [← HM.out] at GL GR GM
        have k0 := K0.out wr (Below.refl _ _)
        have k1 := K1.out wr (Below.refl _ _)
        have CR := hid (fun W => in_anyI x 0 7 W)
        by_cases hx : 0 ≤ x ∧ x ≤ 7
        · rw [decide_eq_true hx] at CR
          have HX := hid hx
          clear hx
          have CK := hid (fun W => kind_spec y W HSY.out)
          by_cases hk : (nodeOf y).1 = 0
          · have HZ : Hid (imgOut es = ([], 2, (i : Int))) := hid (HR.out.symm.trans (GK.out HX.out hk))
            rw [hk] at CK
            clear hk hbel
            go_wp2_with (first | (go_at_call 87; refine (CR.out _).mono ?_; rintro e w2 ⟨rfl, e2⟩; rw [e2]; clear e2 w2) | (go_at_call 88; refine (CK.out _).mono ?_; rintro e w3 ⟨rfl, hb3⟩; refine Hid.out ?_))
            refine hid ?_
            go_wp2
            go_ret3
            exact ⟨_, by rw [HZ.out]; rfl, HBW.out.trans (hb3.mono HBW.out.size), by rw [HZ.out]; exact own_below HNW.out hb3⟩
          · have HK := hid hk
            have CL := hid (fun W => looks_spec y HSY.out W)
            unfold LooksPost at CL
            have hkb : (((nodeOf y).1 : Int) == 0) = false := by rw [beq_eq_false_iff_ne]; omega
            have hkk : ¬ ((nodeOf y).1 : Int) = 0 := by omega
            generalize (nodeOf y).1 = kk at *
            generalize looksO y = r at *
            obtain ⟨rb, rl, rn, rv⟩ := r
            dsimp only at CL
            clear hk hbel
            go_wp2_with (first | (go_at_call 87; refine (CR.out _).mono ?_; rintro e w2 ⟨rfl, e2⟩; rw [e2]; clear e2 w2) | (go_at_call 88; refine (CK.out _).mono ?_; rintro e w3 ⟨rfl, hb3⟩; refine Hid.out ?_))
            refine hid ?_
            have HB3 := hid hb3
            have HBW3 := hid (HBW.out.trans (hb3.mono HBW.out.size))
            have HB13 := hid (HB.out.trans (hb3.mono HB.out.size))
            have HN3 := hid (own_below HNW.out hb3)
            have HO3 := hid (own_below HO.out hb3)
            have k2 := K1.out w3 hb3
            clear k0 k1 hb3
            go_wp2_with (go_at_call 91; refine (CL.out _).mono ?_; rintro e w4 ⟨rfl, hb4⟩; refine Hid.out ?_)
            refine hid ?_
            have HB4 := hid (HB3.out.trans (hb4.mono HB3.out.size))
            have HBW4 := hid (HBW3.out.trans (hb4.mono HBW3.out.size))
            have HB14 := hid (HB13.out.trans (hb4.mono HB13.out.size))
            have HN4 := hid (own_below HN3.out hb4)
            have HO4 := hid (own_below HO3.out hb4)
            clear k2 hb4
            obtain ⟨w5, hw5⟩ : ∃ W, W = w4.alloc (.cells #[.string (bytesOf rn), .int .i64 rv] 66) := ⟨_, rfl⟩
            have hb5 : Below w4.heap.size w4 w5 := by rw [hw5]; exact (Below.refl _ _).alloc (Nat.le_refl _) _
            have HI5 : Hid (w5.heap[w4.heap.size]? = some (.cells #[.string (bytesOf rn), .int .i64 rv] 66)) := hid (by rw [hw5]; exact heap_alloc_new _ _)
            have HB5 := hid (HB4.out.trans (hb5.mono HB4.out.size))
            have HBW5 := hid (HBW4.out.trans (hb5.mono HBW4.out.size))
            have HB15 := hid (HB14.out.trans (hb5.mono HB14.out.size))
            have HN5 := hid (own_below HN4.out hb5)
            have HO5 := hid (own_below HO4.out hb5)
            have hz5 : w5.heap.size = w4.heap.size + 1 := by rw [hw5]; simp
            have HW5 := hid hw5
            have HZ5 := hid hz5
            clear hw5 hb5 hz5
            cases rb with
            | false =>
              have HE := hid ((GN.out HX.out HK.out rfl).symm.trans HR.out)
              go_wp2
              go_roundw
              case rel => exact ⟨i + 1, im, by omega, by rw [← HM.out]; omega, by go_num, by rw [← HW5.out]; exact HB15.out, hid (by rw [← HW5.out, ← HM.out]; exact HO5.out), HE⟩
              case measure => simp [RowKit.intOf]; omega
            | true =>
              by_cases hl : rl = (m : Int)
              · subst hl
                have q0 : w5.cell? ⟨g, o + i * 2, none⟩ = some (.int .i64 x) := K0.out w5 HB5.out
                have q1 : w5.cell? ⟨w4.heap.size, 0, none⟩ = some (.string (bytesOf rn)) := (cell_of_row _ _ 0 _ _ _ HI5.out).trans rfl
                have q2 : w5.cell? ⟨w4.heap.size, 1, none⟩ = some (.int .i64 rv) := (cell_of_row _ _ 1 _ _ _ HI5.out).trans rfl
                rw [HW5.out] at q0 q1 q2
                by_cases hr : x = ((m % 8 : Nat) : Int)
                · have HE := hid ((GM.out _ _ HX.out HK.out rfl hr).symm.trans HR.out)
                  have hr2 : x = (m : Int) % 8 := by omega
                  clear hr
                  have hr3 : (x != (m : Int) % 8) = false := by rw [hr2]; simp
                  go_wp2_with (at_builtin; rw [← HW5.out]; refine wp_append_image rfl _ _ rfl w1.heap.size _ im ?c1 (by rw [← HM.out]; exact HO5.out.alloc _) w5.heap.size 1 (bytesOf rn) rv ?c1b ?c2 ?c3 ?c4 ?c5 ?_)
                  case c1 => simp [go_sem]
                  case c1b => simp [go_sem]; exact HZ5.out.symm
                  case c2 => simp [go_sem]
                  case c3 => simp [go_sem]
                  case c4 => rw [← HM.out]; omega
                  case c5 => have := HB15.out.size; simp; omega
                  intro v6 w6 hown6 hgrow _
                  have HB6 : Hid (Below w1.heap.size w1 w6) := hid ((HB15.out.alloc HB15.out.size _).grown hgrow (by have := HB15.out.size; simp; omega) (fun k hk => (HO5.out.lt k hk).1))
                  have HO6 : Hid (w6.ownsRow w1.heap.size 66 2 v6 (im ++ [ImageD.mk (bytesOf rn) rv]).length (flat encImage (im ++ [ImageD.mk (bytesOf rn) rv]))) := hid (by rw [List.length_append]; exact hown6)
                  clear hown6 hgrow
                  go_wp2
                  go_roundw
                  case rel => exact ⟨i + 1, _, by omega, by rw [List.length_append, ← HM.out]; simp; omega, by go_num, HB6.out, HO6, HE⟩
                  case measure => simp [RowKit.intOf]; omega
                · have HZ : Hid (imgOut es = ([], 4, (i : Int))) := hid (HR.out.symm.trans (GR.out _ _ HX.out HK.out rfl hr))
                  have hr2 : ¬ x = (m : Int) % 8 := by omega
                  have hr3 : (x != (m : Int) % 8) = true := by simp [hr2]
                  clear hr
                  go_wp2
                  go_ret3
                  exact ⟨_, by rw [HZ.out]; rfl, by rw [← HW5.out]; exact HBW5.out, by rw [HZ.out, ← HW5.out]; exact HN5.out⟩
              · have HZ : Hid (imgOut es = ([], 3, (i : Int))) := hid (HR.out.symm.trans (GL.out _ _ _ HX.out HK.out rfl hl))
                have hlb : (rl != (m : Int)) = true := by simp [hl]
                go_wp2
                go_ret3
                exact ⟨_, by rw [HZ.out]; rfl, by rw [← HW5.out]; exact HBW5.out, by rw [HZ.out, ← HW5.out]; exact HN5.out⟩
        · rw [decide_eq_false hx] at CR
          have HZ : Hid (imgOut es = ([], 2, (i : Int))) := hid (HR.out.symm.trans (GB.out hx))
          clear hx hbel
          go_wp2_with (go_at_call 87; refine (CR.out _).mono ?_; rintro e w2 ⟨rfl, e2⟩; rw [e2]; clear e2 w2)
          go_ret3
          exact ⟨_, by rw [HZ.out]; rfl, HBW.out, by rw [HZ.out]; exact HNW.out⟩
      · have hie : i = es.length := by omega
        subst hie
        have HZ : Hid (imgOut es = (im, 0, -1)) := hid (HR.out.symm.trans imgGo_end)
        clear hbel
        go_wp2
        go_ret3
        exact ⟨_, by rw [HZ.out]; rfl, HBW.out, by rw [HZ.out]; exact own_base (by rw [← HM.out]; exact HO.out) HB1.out.size⟩
  · have HZ : Hid (imgOut es = ([], 1, -1)) := hid (by unfold imgOut; rw [if_neg h60])
    rw [HZ.out]
    go_enter Tryz.func31, Tryz.ntmps31
    go_wp2
    go_ret3
    exact ⟨_, rfl, by rw [← HW1.out]; exact HB1.out, by rw [← HW1.out]; exact HN1.out⟩
end Go.Proofs.YtgmgffbfpbkfmaaGreatDoor

namespace Go.Proofs.YtgmgffbfpbkfmaaGreatDoor
open Go.RowKit
open Go.Lib (hid)

theorem ireg_calls (n : Int) (w : World) :
    Calls Tryz.prog 168 #[.int .i64 n] w fun e w' => e = .returned (.bool (decide (0 ≤ n ∧ n ≤ 7))) ∧ w' = w := by
  by_cases h0 : 0 ≤ n
  · by_cases h1 : n < 8
    · have h2 : decide (0 ≤ n ∧ n ≤ 7) = true := decide_eq_true ⟨h0, by omega⟩
      rw [h2]
      go_enter Tryz.func168, Tryz.ntmps168
      go_wp2
      go_ret
      exact ⟨by simp, rfl⟩
    · have h2 : decide (0 ≤ n ∧ n ≤ 7) = false := decide_eq_false (fun h => h1 (by omega))
      rw [h2]
      go_enter Tryz.func168, Tryz.ntmps168
      go_wp2
      go_ret
      exact ⟨by first | rfl | simp | (simp; omega), rfl⟩
  · have h2 : decide (0 ≤ n ∧ n ≤ 7) = false := decide_eq_false (fun h => h0 h.1)
    rw [h2]
    go_enter Tryz.func168, Tryz.ntmps168
    go_wp2
    go_ret
    exact ⟨rfl, rfl⟩

set_option maxRecDepth 20000 in
theorem right_impl (x : Int) (y : ByteArray) (w : World) (hT : Tab w) (hG : 0 < w.heap.size) :
    Calls Tryz.prog 151 #[.agg #[.int .i64 x, .string y]] w fun e w' => e = .returned (.bool (decide ((0 ≤ x ∧ x ≤ 7) ∧ (nodeOf y).1 ≠ 0))) ∧ Below w.heap.size w w' := by
  have HT := hid hT
  clear hT
  obtain ⟨w1, hw1⟩ : ∃ W, W = w.alloc (.cells #[.int .i64 x, .string y] 131) := ⟨_, rfl⟩
  have HB1 : Hid (Below w.heap.size w w1) := hid (by rw [hw1]; exact (Below.refl _ _).alloc (Nat.le_refl _) _)
  have HV1 : Hid (w1.heap[w.heap.size]? = some (.cells #[.int .i64 x, .string y] 131)) := hid (by rw [hw1]; exact heap_alloc_new _ _)
  have HW1 := hid hw1
  clear hw1
  have k0 : w1.cell? ⟨w.heap.size, 0, none⟩ = some (.int .i64 x) := (cell_of_row _ _ 0 _ _ _ HV1.out).trans rfl
  have k1 : w1.cell? ⟨w.heap.size, 1, none⟩ = some (.string y) := (cell_of_row _ _ 1 _ _ _ HV1.out).trans rfl
  have CR := hid (fun W => ireg_calls x W)
  by_cases hx : 0 ≤ x ∧ x ≤ 7
  · rw [decide_eq_true hx] at CR
    have HX := hid hx
    clear hx
    have CK := hid (fun W hT hG => kind_impl y W hT hG)
    by_cases hk : (nodeOf y).1 = 0
    · rw [decide_eq_false (fun h => h.2 hk)]
      rw [hk] at CK
      clear hk
      go_enter Tryz.func151, Tryz.ntmps151
      go_wp2_with (first | (go_at_call 168; rw [← HW1.out]; refine (CR.out _).mono ?_; rintro e w2 ⟨rfl, e2⟩; rw [e2]; clear e2 w2) | (go_at_call 54; refine (CK.out _ (tab_on HT.out hG HB1.out) (Nat.lt_of_lt_of_le hG HB1.out.size)).mono ?_; rintro e w3 ⟨rfl, hb3⟩; refine Hid.out ?_))
      refine hid ?_
      go_wp2
      go_ret
      exact ⟨rfl, HB1.out.trans (hb3.mono HB1.out.size)⟩
    · rw [decide_eq_true ⟨HX.out, hk⟩]
      have hkb : (((nodeOf y).1 : Int) != 0) = true := by simp; omega
      have hkk : ¬ ((nodeOf y).1 : Int) = 0 := by omega
      generalize (nodeOf y).1 = kk at *
      go_enter Tryz.func151, Tryz.ntmps151
      go_wp2_with (first | (go_at_call 168; rw [← HW1.out]; refine (CR.out _).mono ?_; rintro e w2 ⟨rfl, e2⟩; rw [e2]; clear e2 w2) | (go_at_call 54; refine (CK.out _ (tab_on HT.out hG HB1.out) (Nat.lt_of_lt_of_le hG HB1.out.size)).mono ?_; rintro e w3 ⟨rfl, hb3⟩; refine Hid.out ?_))
      refine hid ?_
      go_wp2
      go_ret
      exact ⟨by simp, HB1.out.trans (hb3.mono HB1.out.size)⟩
  · rw [decide_eq_false hx] at CR
    rw [decide_eq_false (fun h => hx h.1)]
    clear hx
    go_enter Tryz.func151, Tryz.ntmps151
    go_wp2_with (go_at_call 168; rw [← HW1.out]; refine (CR.out _).mono ?_; rintro e w2 ⟨rfl, e2⟩; rw [e2]; clear e2 w2)
    go_ret
    exact ⟨rfl, HB1.out⟩

/-- What an event is looked at as. -/
def lookV (x : Int) (y : ByteArray) : Value :=
  if (looksO y).1 = true then .iface 215 (.agg #[.int .i64 x, .string y, .int .i64 (looksO y).2.1, .string (bytesOf (looksO y).2.2.1), .int .i64 (looksO y).2.2.2]) else .iface 131 (.agg #[.int .i64 x, .string y])

set_option maxRecDepth 20000 in
set_option maxHeartbeats 2000000 in
theorem lookAt_impl (x : Int) (y : ByteArray) (w : World) (hT : Tab w) (hG : 0 < w.heap.size) (hL : Num.Laid w) :
    Calls Tryz.prog 94 #[.agg #[.int .i64 x, .string y]] w fun e w' => e = .returned (lookV x y) ∧ Below w.heap.size w w' := by
  have HT := hid hT
  have HLD := hid hL
  clear hT hL
  unfold lookV
  obtain ⟨w1, hw1⟩ : ∃ W, W = w.alloc (.cells #[.int .i64 x, .string y] 131) := ⟨_, rfl⟩
  have HB1 : Hid (Below w.heap.size w w1) := hid (by rw [hw1]; exact (Below.refl _ _).alloc (Nat.le_refl _) _)
  have HV1 : Hid (w1.heap[w.heap.size]? = some (.cells #[.int .i64 x, .string y] 131)) := hid (by rw [hw1]; exact heap_alloc_new _ _)
  have hz1 : w1.heap.size = w.heap.size + 1 := by rw [hw1]; simp
  have HW1 := hid hw1
  clear hw1
  have k0 : w1.cell? ⟨w.heap.size, 0, none⟩ = some (.int .i64 x) := (cell_of_row _ _ 0 _ _ _ HV1.out).trans rfl
  have k1 : w1.cell? ⟨w.heap.size, 1, none⟩ = some (.string y) := (cell_of_row _ _ 1 _ _ _ HV1.out).trans rfl
  have CL := hid (fun W hT hG hL => looks_impl y W hT hG hL)
  unfold LooksPost at CL
  generalize looksO y = r at *
  obtain ⟨rb, rl, rn, rv⟩ := r
  dsimp only at CL ⊢
  go_enter Tryz.func94, Tryz.ntmps94
  go_wp2_with (go_at_call 154; rw [← HW1.out]; refine (CL.out _ (tab_on HT.out hG HB1.out) (Nat.lt_of_lt_of_le hG HB1.out.size) (HLD.out.on HB1.out)).mono ?_; rintro e w2 ⟨rfl, hb2⟩; refine Hid.out ?_)
  refine hid ?_
  have HB2 := hid (HB1.out.trans (hb2.mono HB1.out.size))
  obtain ⟨w3, hw3⟩ : ∃ W, W = w2.alloc (.cells #[.string (bytesOf rn), .int .i64 rv] 66) := ⟨_, rfl⟩
  have HB3 : Hid (Below w.heap.size w w3) := hid (by rw [hw3]; exact HB2.out.alloc HB2.out.size _)
  have HV3 : Hid (w3.heap[w2.heap.size]? = some (.cells #[.string (bytesOf rn), .int .i64 rv] 66)) := hid (by rw [hw3]; exact heap_alloc_new _ _)
  have HE3 : Hid (w3.heap[w.heap.size]? = some (.cells #[.int .i64 x, .string y] 131)) := hid (by rw [hw3]; exact (((Below.refl w2.heap.size w2).alloc (Nat.le_refl _) _).block _ (by have := hb2.size; omega)).trans ((hb2.block _ (by omega)).trans HV1.out))
  have HW3 := hid hw3
  have j0 : w3.cell? ⟨w.heap.size, 0, none⟩ = some (.int .i64 x) := (cell_of_row _ _ 0 _ _ _ HE3.out).trans rfl
  have j1 : w3.cell? ⟨w.heap.size, 1, none⟩ = some (.string y) := (cell_of_row _ _ 1 _ _ _ HE3.out).trans rfl
  have i0 : w3.cell? ⟨w2.heap.size, 0, none⟩ = some (.string (bytesOf rn)) := (cell_of_row _ _ 0 _ _ _ HV3.out).trans rfl
  have i1 : w3.cell? ⟨w2.heap.size, 1, none⟩ = some (.int .i64 rv) := (cell_of_row _ _ 1 _ _ _ HV3.out).trans rfl
  clear k0 k1 hw3 hb2
  rw [HW3.out] at j0 j1 i0 i1
  cases rb with
  | true =>
    go_wp2
    go_ret
    exact ⟨rfl, by rw [← HW3.out]; exact HB3.out⟩
  | false =>
    go_wp2
    go_ret
    exact ⟨rfl, by rw [← HW3.out]; exact HB3.out⟩

end Go.Proofs.YtgmgffbfpbkfmaaGreatDoor

namespace Go.Proofs.YtgmgffbfpbkfmaaGreatDoor
open Go.RowKit
open Go.Lib (hid)
set_option maxRecDepth 100000

theorem meth_ev (v : Value) (w : World) : (method 459 131 v "loop.example/g00082/impl.right").run Tryz.prog w = .ok (151, v) w := by rfl

theorem meth_ld (a b c d e : Value) (w : World) : (method 459 215 (.agg #[a, b, c, d, e]) "loop.example/g00082/impl.right").run Tryz.prog w = .ok (151, .agg #[a, b]) w := by rfl

theorem meth_lo (v : Value) (w : World) : (method 459 215 v "loop.example/g00082/impl.loaded").run Tryz.prog w = .ok (301, v) w := by rfl
end Go.Proofs.YtgmgffbfpbkfmaaGreatDoor

namespace Go.Proofs.YtgmgffbfpbkfmaaGreatDoor
open Go.RowKit
open Go.Lib (hid)

/-- What a load tells where so many images stand. -/
def loadO (x l : Int) (n : ByteArray) (v : Int) (m : Nat) : ImageD × Int :=
  if l = m then if x = ((m % 8 : Nat) : Int) then (⟨n, v⟩, 0) else (⟨⟨#[]⟩, 0⟩, 4) else (⟨⟨#[]⟩, 0⟩, 3)

theorem rol_calls (n : Nat) (w : World) :
    Calls Tryz.prog 149 #[.int .i64 (n : Int)] w fun e w' => e = .returned (.int .i64 ((n : Int) % 8)) ∧ w' = w := by
  go_enter Tryz.func149, Tryz.ntmps149
  go_wp2
  go_ret
  exact ⟨rfl, rfl⟩

set_option maxRecDepth 20000 in
set_option maxHeartbeats 2000000 in
theorem loaded_calls (x : Int) (y : ByteArray) (l : Int) (n : ByteArray) (v : Int) (m : Nat) (w : World) :
    Calls Tryz.prog 301 #[.agg #[.int .i64 x, .string y, .int .i64 l, .string n, .int .i64 v], .int .i64 (m : Int)] w fun e w' =>
      e = .returned (.tuple #[.agg #[.string (loadO x l n v m).1.x0, .int .i64 (loadO x l n v m).1.x1], .int .i64 (loadO x l n v m).2]) ∧ Below w.heap.size w w' := by
  have CR := hid (fun W => rol_calls m W)
  unfold loadO
  by_cases hl : l = (m : Int)
  · subst hl
    rw [if_pos rfl]
    by_cases hx : x = ((m % 8 : Nat) : Int)
    · rw [if_pos hx]
      have hx2 : x = (m : Int) % 8 := by omega
      have hx3 : (x != (m : Int) % 8) = false := by rw [hx2]; simp
      clear hx
      go_enter Tryz.func301, Tryz.ntmps301
      go_wp2
      go_region_with (go_at_call 149; refine (CR.out _).mono ?_; rintro e w2 ⟨rfl, rfl⟩)
      all_goals
        go_wp2
        refine bodyPost_ret (v := .tuple #[.agg #[.string n, .int .i64 v], .int .i64 0]) (by simp [results, Tryz.results301, go_sem]) rfl ⟨rfl, (((Below.refl _ _).alloc (Nat.le_refl _) _).alloc (by simp) _).drew⟩
    · rw [if_neg hx]
      have hx2 : ¬ x = (m : Int) % 8 := by omega
      have hx3 : (x != (m : Int) % 8) = true := by simp [hx2]
      clear hx
      go_enter Tryz.func301, Tryz.ntmps301
      go_wp2
      go_region_with (go_at_call 149; refine (CR.out _).mono ?_; rintro e w2 ⟨rfl, rfl⟩)
      all_goals
        go_wp2
        refine bodyPost_ret (v := .tuple #[.agg #[.string ⟨#[]⟩, .int .i64 0], .int .i64 4]) (by simp [results, Tryz.results301, go_sem]) rfl ⟨rfl, (((Below.refl _ _).alloc (Nat.le_refl _) _).alloc (by simp) _).drew⟩
  · rw [if_neg hl]
    have hlb : (l != (m : Int)) = true := by simp [hl]
    go_enter Tryz.func301, Tryz.ntmps301
    go_wp2
    refine bodyPost_ret (v := .tuple #[.agg #[.string ⟨#[]⟩, .int .i64 0], .int .i64 3]) (by simp [results, Tryz.results301, go_sem]) rfl ⟨rfl, ((Below.refl _ _).alloc (Nat.le_refl _) _).alloc (by simp) _⟩

theorem least_some (a : String) : (Go.Instr.least [a]).isSome = true := by rfl

theorem miss_ev : (Go.Instr.missingMethod #[("loop.example/g00082/impl.loaded", 213)] Tryz.t131.methods).isSome = true := by
  have h : ((#[("loop.example/g00082/impl.loaded", (213 : TypeId))].toList.filter fun (x : String × TypeId) => !Tryz.t131.methods.any fun m => m.name == x.1 && m.sig == x.2).map (·.1)) = ["loop.example/g00082/impl.loaded"] := by decide +kernel
  unfold Go.Instr.missingMethod
  dsimp only at h ⊢
  rw [h]
  cases hc : "loop.example/g00082/impl.loaded".contains '.' <;> simp [List.partition, List.partition.loop, hc, Go.Instr.least]

theorem miss_ld : Go.Instr.missingMethod #[("loop.example/g00082/impl.loaded", 213)] Tryz.t215.methods = none := by decide +kernel

open Go.Instr (typeAssert) in
theorem assert_ev (v : Value) (w : World) : (typeAssert (.iface 131 v) 140 210 true).run Tryz.prog w = .ok (.tuple #[.nilIface, .bool false]) w := by
  obtain ⟨m, hm⟩ := Option.isSome_iff_exists.1 miss_ev
  simp [typeAssert, go_sem, hm]

open Go.Instr (typeAssert) in
theorem assert_ld (v : Value) (w : World) : (typeAssert (.iface 215 v) 140 210 true).run Tryz.prog w = .ok (.tuple #[.iface 215 v, .bool true]) w := by
  simp [typeAssert, go_sem, miss_ld]

set_option maxRecDepth 20000 in
set_option maxHeartbeats 2000000 in
theorem repl_bad_ev (x : Int) (y : ByteArray) (h : ¬ ((0 ≤ x ∧ x ≤ 7) ∧ (nodeOf y).1 ≠ 0)) (p : Option Addr) (m c : Nat) (w : World) (hT : Tab w) (hG : 0 < w.heap.size) :
    Calls Tryz.prog 93 #[.slice p m c, .iface 131 (.agg #[.int .i64 x, .string y])] w fun e w' => e = .returned (.tuple #[.slice none 0 0, .int .i64 2]) ∧ Below w.heap.size w w' := by
  have CR := hid (right_impl x y w hT hG)
  rw [decide_eq_false h] at CR
  clear hT h
  go_enter Tryz.func93, Tryz.ntmps93
  have hme := meth_ev (.agg #[.int .i64 x, .string y])
  go_wp2_with (go_at_call 151; refine CR.out.mono ?_; rintro e w2 ⟨rfl, hb2⟩; refine Hid.out ?_)
  refine hid ?_
  go_wp2
  go_ret2
  exact ⟨rfl, hb2⟩

set_option maxRecDepth 20000 in
set_option maxHeartbeats 2000000 in
theorem repl_bad_ld (x : Int) (y : ByteArray) (l : Int) (n : ByteArray) (v : Int) (h : ¬ ((0 ≤ x ∧ x ≤ 7) ∧ (nodeOf y).1 ≠ 0)) (p : Option Addr) (m c : Nat) (w : World) (hT : Tab w) (hG : 0 < w.heap.size) :
    Calls Tryz.prog 93 #[.slice p m c, .iface 215 (.agg #[.int .i64 x, .string y, .int .i64 l, .string n, .int .i64 v])] w fun e w' => e = .returned (.tuple #[.slice none 0 0, .int .i64 2]) ∧ Below w.heap.size w w' := by
  have CR := hid (right_impl x y w hT hG)
  rw [decide_eq_false h] at CR
  clear hT h
  go_enter Tryz.func93, Tryz.ntmps93
  have hme := meth_ld (.int .i64 x) (.string y) (.int .i64 l) (.string n) (.int .i64 v)
  go_wp2_with (go_at_call 151; refine CR.out.mono ?_; rintro e w2 ⟨rfl, hb2⟩; refine Hid.out ?_)
  refine hid ?_
  go_wp2
  go_ret2
  exact ⟨rfl, hb2⟩

set_option maxRecDepth 20000 in
set_option maxHeartbeats 2000000 in
theorem repl_ev (x : Int) (y : ByteArray) (h : (0 ≤ x ∧ x ≤ 7) ∧ (nodeOf y).1 ≠ 0) (p : Option Addr) (m c : Nat) (w : World) (hT : Tab w) (hG : 0 < w.heap.size) :
    Calls Tryz.prog 93 #[.slice p m c, .iface 131 (.agg #[.int .i64 x, .string y])] w fun e w' => e = .returned (.tuple #[.slice p m c, .int .i64 0]) ∧ Below w.heap.size w w' := by
  have CR := hid (right_impl x y w hT hG)
  rw [decide_eq_true h] at CR
  clear hT h
  go_enter Tryz.func93, Tryz.ntmps93
  have hme := meth_ev (.agg #[.int .i64 x, .string y])
  have hta := assert_ev (.agg #[.int .i64 x, .string y])
  go_wp2_with (go_at_call 151; refine CR.out.mono ?_; rintro e w2 ⟨rfl, hb2⟩; refine Hid.out ?_)
  refine hid ?_
  go_wp2
  go_ret2
  exact ⟨rfl, hb2⟩

set_option maxRecDepth 20000 in
set_option maxHeartbeats 2000000 in
theorem repl_ld (x : Int) (y : ByteArray) (l : Int) (n : ByteArray) (v : Int) (h : (0 ≤ x ∧ x ≤ 7) ∧ (nodeOf y).1 ≠ 0) (base : Nat) (im : List ImageD) (hn : im.length ≤ 100000000) (p : Option Addr) (c : Nat) (w : World) (hT : Tab w) (hG : 0 < w.heap.size) (hbase : base ≤ w.heap.size) (hO : w.ownsRow base 66 2 (.slice p im.length c) im.length (flat encImage im)) :
    Calls Tryz.prog 93 #[.slice p im.length c, .iface 215 (.agg #[.int .i64 x, .string y, .int .i64 l, .string n, .int .i64 v])] w fun e w' => ∃ sv, e = .returned (.tuple #[sv, .int .i64 (loadO x l n v im.length).2]) ∧ Below base w w' ∧ w'.ownsRow base 66 2 sv (im ++ [(loadO x l n v im.length).1]).length (flat encImage (im ++ [(loadO x l n v im.length).1])) := by
  have CR := hid (right_impl x y w hT hG)
  rw [decide_eq_true h] at CR
  have HO := hid hO
  clear hT h hO
  obtain ⟨m, hm⟩ : ∃ m, m = im.length := ⟨_, rfl⟩
  have HM := hid hm
  rw [← hm] at HO ⊢
  clear hm
  have CL := hid (fun W => loaded_calls x y l n v m W)
  generalize loadO x l n v m = r at *
  obtain ⟨⟨n', v'⟩, code⟩ := r
  dsimp only at CL ⊢
  go_enter Tryz.func93, Tryz.ntmps93
  have hme := meth_ld (.int .i64 x) (.string y) (.int .i64 l) (.string n) (.int .i64 v)
  have hml := meth_lo (.agg #[.int .i64 x, .string y, .int .i64 l, .string n, .int .i64 v])
  have hta := assert_ld (.agg #[.int .i64 x, .string y, .int .i64 l, .string n, .int .i64 v])
  go_wp2_with (go_at_call 151; refine CR.out.mono ?_; rintro e w2 ⟨rfl, hb2⟩; refine Hid.out ?_)
  refine hid ?_
  have HB2 := hid hb2
  have HO2 := hid (own_below HO.out hb2)
  clear hb2
  go_wp2_with (go_at_call 301; refine (CL.out _).mono ?_; rintro e w3 ⟨rfl, hb3⟩; refine Hid.out ?_)
  refine hid ?_
  have HB3 := hid (HB2.out.trans (hb3.mono HB2.out.size))
  have HO3 := hid (own_below HO2.out hb3)
  clear hb3
  obtain ⟨w4, hw4⟩ : ∃ W, W = w3.alloc (.cells #[.string n', .int .i64 v'] 66) := ⟨_, rfl⟩
  have hb4 : Below w3.heap.size w3 w4 := by rw [hw4]; exact (Below.refl _ _).alloc (Nat.le_refl _) _
  have HI4 : Hid (w4.heap[w3.heap.size]? = some (.cells #[.string n', .int .i64 v'] 66)) := hid (by rw [hw4]; exact heap_alloc_new _ _)
  have HB4 := hid (HB3.out.trans (hb4.mono HB3.out.size))
  have HO4 := hid (own_below HO3.out hb4)
  have HZ4 : Hid (w4.heap.size = w3.heap.size + 1) := hid (by rw [hw4]; simp)
  have q1 : w4.cell? ⟨w3.heap.size, 0, none⟩ = some (.string n') := (cell_of_row _ _ 0 _ _ _ HI4.out).trans rfl
  have q2 : w4.cell? ⟨w3.heap.size, 1, none⟩ = some (.int .i64 v') := (cell_of_row _ _ 1 _ _ _ HI4.out).trans rfl
  have HW4 := hid hw4
  rw [hw4] at q1 q2
  clear hw4 hb4
  go_wp2_with (at_builtin; rw [← HW4.out]; refine wp_append_image rfl _ _ rfl base _ im ?c1 (by rw [← HM.out]; exact HO4.out.alloc _) w4.heap.size 1 n' v' ?c1b ?c2 ?c3 ?c4 ?c5 ?_)
  case c1 => simp [go_sem]
  case c1b => simp [go_sem]; exact HZ4.out.symm
  case c2 => simp [go_sem]
  case c3 => simp [go_sem]
  case c4 => exact hn
  case c5 => have := HB4.out.size; simp; omega
  intro v6 w6 hown6 hgrow _
  have HB6 : Hid (Below base w w6) := hid (((HB4.out.mono hbase).alloc (by have := HB4.out.size; omega) _).grown hgrow (by have := HB4.out.size; simp; omega) (fun k hk => (HO4.out.lt k hk).1))
  have HO6 : Hid (w6.ownsRow base 66 2 v6 (im ++ [ImageD.mk n' v']).length (flat encImage (im ++ [ImageD.mk n' v']))) := hid (by rw [List.length_append]; exact hown6)
  clear hown6 hgrow
  go_wp2
  go_ret2
  exact ⟨_, rfl, HB6.out, HO6.out⟩
end Go.Proofs.YtgmgffbfpbkfmaaGreatDoor

namespace Go.Proofs.YtgmgffbfpbkfmaaGreatDoor
open Go.RowKit
open Go.Lib (hid)

set_option maxRecDepth 20000 in
set_option maxHeartbeats 4000000 in
theorem img_impl (es : List EventD) (hn : es.length ≤ 1048576) (a : Value) (w : World) (ha : FRow encEvent 2 w a es) (hT : Tab w) (hG : 0 < w.heap.size) (hL : Num.Laid w) :
    Calls Tryz.prog 33 #[a] w (ImgPost es w) := by
  unfold ImgPost
  have HA := hid ha
  have HT := hid hT
  have HLD := hid hL
  obtain ⟨p, c, rfl, _⟩ := ha
  clear hT hL
  by_cases h60 : es.length ≤ 60
  · have HE0 : Hid (imgGo (es.drop 0) 0 [] = imgOut es) := hid (by rw [List.drop_zero]; unfold imgOut; rw [if_pos h60])
    go_enter Tryz.func33, Tryz.ntmps33
    go_wp2
    go_loopw [5, 15] (fun out iv wr => ∃ i : Nat, ∃ im : List ImageD, i ≤ es.length ∧ im.length ≤ i ∧ iv = .int .i64 i ∧ Below w.heap.size w wr ∧ Hid (wr.ownsRow w.heap.size 66 2 out im.length (flat encImage im)) ∧ Hid (imgGo (es.drop i) i im = imgOut es)) (fun _ iv _ => es.length - (RowKit.intOf iv).toNat)
    case atStart => exact ⟨0, [], Nat.zero_le _, Nat.zero_le _, rfl, Below.refl _ _, hid (nil_images _ _), HE0⟩
    case round =>
      obtain ⟨i, im, hi, him, rfl, hbel, HO, HR⟩ := hrel
      have HBW := hid hbel
      have hsl : ∃ ip ic, u5 = Value.slice ip im.length ic := by
        obtain ⟨ip, ic, h, _⟩ := row_of_own encImage_len HO.out
        exact ⟨ip, ic, h⟩
      obtain ⟨ip, ic, rfl⟩ := hsl
      by_cases hlt : i < es.length
      · have hne : es ≠ [] := fun h => by rw [h] at hlt; cases hlt
        obtain ⟨p', c', hv, _, hp⟩ := HA.out
        obtain ⟨rfl, rfl⟩ : p = p' ∧ c = c' := by injection hv with h1 h2 h3; exact ⟨h1, by omega⟩
        obtain ⟨g, o, rfl, hg, hc⟩ := hp hne
        clear hv hp
        have b1 : (0 : Int) ≤ (i : Int) := by omega
        have b2 : (i : Int) < (es.length : Int) := by omega
        have k0 : wr.cell? ⟨g, o + i * 2, none⟩ = some (.int .i64 es[i].x0) := (HBW.out.cell (p := ⟨g, o + i * 2, none⟩) hg).trans (hc i hlt 0 (by decide))
        have k1 : wr.cell? ⟨g, o + i * 2 + 1, none⟩ = some (.string es[i].x1) := (HBW.out.cell (p := ⟨g, o + i * 2 + 1, none⟩) hg).trans (hc i hlt 1 (by decide))
        clear hc
        have GB := hid (fun h => imgGo_bad (es := es) (i := i) (im := im) hlt h)
        have GK := hid (fun h hk => imgGo_kind (es := es) (i := i) (im := im) hlt h hk)
        have GN := hid (fun h hk hl => imgGo_no (es := es) (i := i) (im := im) hlt h hk hl)
        have GL := hid (fun l v b h hk hl hn => imgGo_layer (es := es) (i := i) (im := im) (l := l) (v := v) (b := b) hlt h hk hl hn)
        have GR := hid (fun v b h hk hl hn => imgGo_reg (es := es) (i := i) (im := im) (v := v) (b := b) hlt h hk hl hn)
        have GM := hid (fun v b h hk hl hn => imgGo_more (es := es) (i := i) (im := im) (v := v) (b := b) hlt h hk hl hn)
        generalize es[i].x0 = x at *
        generalize es[i].x1 = y at *
        have CA := hid (fun W hT hG hL => lookAt_impl x y W hT hG hL)
        unfold lookV at CA
        obtain ⟨W2, hW2⟩ : ∃ W2, W2 = wr.alloc (.cells #[.int .i64 x, .string y] 131) := ⟨_, rfl⟩
        have HB2 : Hid (Below w.heap.size w W2) := hid (by rw [hW2]; exact HBW.out.alloc HBW.out.size _)
        have HO2 : Hid (W2.ownsRow w.heap.size 66 2 (.slice ip im.length ic) im.length (flat encImage im)) := hid (by rw [hW2]; exact HO.out.alloc _)
        have l0 : W2.cell? ⟨wr.heap.size, 0, none⟩ = some (.int .i64 x) := by rw [hW2]; exact (cell_of_row _ _ 0 _ _ _ (heap_alloc_new _ _)).trans rfl
        have l1 : W2.cell? ⟨wr.heap.size, 1, none⟩ = some (.string y) := by rw [hW2]; exact (cell_of_row _ _ 1 _ _ _ (heap_alloc_new _ _)).trans rfl
        have HW2 := hid hW2
        clear hW2 hbel
        have HBAD : ¬ ((0 ≤ x ∧ x ≤ 7) ∧ (nodeOf y).1 ≠ 0) → imgOut es = ([], 2, (i : Int)) := fun h => by
          by_cases hx : 0 ≤ x ∧ x ≤ 7
          · have hk : (nodeOf y).1 = 0 := by
              by_cases hk : (nodeOf y).1 = 0
              · exact hk
              · exact absurd ⟨hx, hk⟩ h
            exact HR.out.symm.trans (GK.out hx hk)
          · exact HR.out.symm.trans (GB.out hx)
        have HBAD := hid HBAD
        have CBE := hid (fun h p m c W hT hG => repl_bad_ev x y h p m c W hT hG)
        have CBL := hid (fun l n v h p m c W hT hG => repl_bad_ld x y l n v h p m c W hT hG)
        have CEV := hid (fun h p m c W hT hG => repl_ev x y h p m c W hT hG)
        have CLD := hid (fun l n v h W hT hG hb hO => repl_ld x y l n v h w.heap.size im (by omega) ip ic W hT hG hb hO)
        have hm60 : im.length ≤ 60 := by omega
        obtain ⟨rb, rl, rn, rv, hr⟩ : ∃ rb rl rn rv, looksO y = (rb, rl, rn, rv) := ⟨_, _, _, _, rfl⟩
        rw [hr] at CA GN
        have HLK := hid hr
        clear hr
        dsimp only at CA GN
        cases rb with
        | false =>
          rw [if_neg (by decide)] at CA
          go_wp2_with (go_at_call 94; rw [← HW2.out]; refine (CA.out _ (tab_on HT.out hG HB2.out) (Nat.lt_of_lt_of_le hG HB2.out.size) (HLD.out.on HB2.out)).mono ?_; rintro e w3 ⟨rfl, hb3⟩; refine Hid.out ?_)
          refine hid ?_
          have HB3 := hid (HB2.out.trans (hb3.mono HB2.out.size))
          have HO3 := hid (own_below HO2.out hb3)
          clear hb3 k0 k1 l0 l1
          by_cases hR : (0 ≤ x ∧ x ≤ 7) ∧ (nodeOf y).1 ≠ 0
          · have HE := hid ((GN.out hR.1 hR.2 trivial).symm.trans HR.out)
            have HRR := hid hR
            clear hR
            go_wp2_with (go_at_call 93; refine (CEV.out HRR.out _ _ _ _ (tab_on HT.out hG HB3.out) (Nat.lt_of_lt_of_le hG HB3.out.size)).mono ?_; rintro e w4 ⟨rfl, hb4⟩; refine Hid.out ?_)
            refine hid ?_
            have HB4 := hid (HB3.out.trans (hb4.mono HB3.out.size))
            have HO4 := hid (own_below HO3.out hb4)
            clear hb4
            go_wp2
            go_roundw
            case rel => exact ⟨i + 1, im, by omega, by omega, by go_num, HB4.out, HO4, HE⟩
            case measure => simp [RowKit.intOf]; omega
          · have HZ := hid (HBAD.out hR)
            have HRR := hid hR
            clear hR
            go_wp2_with (go_at_call 93; refine (CBE.out HRR.out _ _ _ _ (tab_on HT.out hG HB3.out) (Nat.lt_of_lt_of_le hG HB3.out.size)).mono ?_; rintro e w4 ⟨rfl, hb4⟩; refine Hid.out ?_)
            refine hid ?_
            have HB4 := hid (HB3.out.trans (hb4.mono HB3.out.size))
            clear hb4
            go_wp2
            go_ret3
            exact ⟨_, by rw [HZ.out]; rfl, HB4.out, by rw [HZ.out]; exact nil_images _ _⟩
        | true =>
          rw [if_pos rfl] at CA
          go_wp2_with (go_at_call 94; rw [← HW2.out]; refine (CA.out _ (tab_on HT.out hG HB2.out) (Nat.lt_of_lt_of_le hG HB2.out.size) (HLD.out.on HB2.out)).mono ?_; rintro e w3 ⟨rfl, hb3⟩; refine Hid.out ?_)
          refine hid ?_
          have HB3 := hid (HB2.out.trans (hb3.mono HB2.out.size))
          have HO3 := hid (own_below HO2.out hb3)
          clear hb3 k0 k1 l0 l1
          by_cases hR : (0 ≤ x ∧ x ≤ 7) ∧ (nodeOf y).1 ≠ 0
          · have HRR := hid hR
            clear hR
            have CL2 := hid (fun W hT hG hb hO => CLD.out rl (bytesOf rn) rv HRR.out W hT hG hb hO)
            by_cases hl : rl = (im.length : Int)
            · subst hl
              by_cases hx : x = ((im.length % 8 : Nat) : Int)
              · have e1 : loadO x (im.length : Int) (bytesOf rn) rv im.length = (⟨bytesOf rn, rv⟩, 0) := by unfold loadO; rw [if_pos rfl, if_pos hx]
                have HE := hid ((GM.out rv rn HRR.out.1 HRR.out.2 HLK.out hx).symm.trans HR.out)
                rw [e1] at CL2
                clear hx e1
                go_wp2_with (go_at_call 93; refine (CL2.out _ (tab_on HT.out hG HB3.out) (Nat.lt_of_lt_of_le hG HB3.out.size) HB3.out.size HO3.out).mono ?_; rintro e w4 ⟨sv, rfl, hb4, ho4⟩; refine Hid.out ?_)
                refine hid ?_
                have HB4 := hid (HB3.out.trans hb4)
                have HO4 := hid ho4
                clear hb4 ho4
                go_wp2
                go_roundw
                case rel => exact ⟨i + 1, _, by omega, by rw [List.length_append]; simp; omega, by go_num, HB4.out, HO4, HE⟩
                case measure => simp [RowKit.intOf]; omega
              · have e1 : loadO x (im.length : Int) (bytesOf rn) rv im.length = (⟨⟨#[]⟩, 0⟩, 4) := by unfold loadO; rw [if_pos rfl, if_neg hx]
                have HZ : Hid (imgOut es = ([], 4, (i : Int))) := hid (HR.out.symm.trans (GR.out rv rn HRR.out.1 HRR.out.2 HLK.out hx))
                rw [e1] at CL2
                clear hx e1
                go_wp2_with (go_at_call 93; refine (CL2.out _ (tab_on HT.out hG HB3.out) (Nat.lt_of_lt_of_le hG HB3.out.size) HB3.out.size HO3.out).mono ?_; rintro e w4 ⟨sv, rfl, hb4, ho4⟩; refine Hid.out ?_)
                refine hid ?_
                have HB4 := hid (HB3.out.trans hb4)
                have HO4 := hid ho4
                clear hb4 ho4
                go_wp2
                go_ret3
                exact ⟨_, by rw [HZ.out]; rfl, HB4.out, by rw [HZ.out]; exact nil_images _ _⟩
            · have e1 : loadO x rl (bytesOf rn) rv im.length = (⟨⟨#[]⟩, 0⟩, 3) := by unfold loadO; rw [if_neg hl]
              have HZ : Hid (imgOut es = ([], 3, (i : Int))) := hid (HR.out.symm.trans (GL.out rl rv rn HRR.out.1 HRR.out.2 HLK.out hl))
              rw [e1] at CL2
              clear hl e1
              go_wp2_with (go_at_call 93; refine (CL2.out _ (tab_on HT.out hG HB3.out) (Nat.lt_of_lt_of_le hG HB3.out.size) HB3.out.size HO3.out).mono ?_; rintro e w4 ⟨sv, rfl, hb4, ho4⟩; refine Hid.out ?_)
              refine hid ?_
              have HB4 := hid (HB3.out.trans hb4)
              have HO4 := hid ho4
              clear hb4 ho4
              go_wp2
              go_ret3
              exact ⟨_, by rw [HZ.out]; rfl, HB4.out, by rw [HZ.out]; exact nil_images _ _⟩
          · have HZ := hid (HBAD.out hR)
            have HRR := hid hR
            clear hR
            go_wp2_with (go_at_call 93; refine (CBL.out _ _ _ HRR.out _ _ _ _ (tab_on HT.out hG HB3.out) (Nat.lt_of_lt_of_le hG HB3.out.size)).mono ?_; rintro e w4 ⟨rfl, hb4⟩; refine Hid.out ?_)
            refine hid ?_
            have HB4 := hid (HB3.out.trans (hb4.mono HB3.out.size))
            clear hb4
            go_wp2
            go_ret3
            exact ⟨_, by rw [HZ.out]; rfl, HB4.out, by rw [HZ.out]; exact nil_images _ _⟩
      · have hie : i = es.length := by omega
        subst hie
        have HZ : Hid (imgOut es = (im, 0, -1)) := hid (HR.out.symm.trans imgGo_end)
        clear hbel
        go_wp2
        go_ret3
        exact ⟨_, by rw [HZ.out]; rfl, HBW.out, by rw [HZ.out]; exact HO.out⟩
  · have HZ : Hid (imgOut es = ([], 1, -1)) := hid (by unfold imgOut; rw [if_neg h60])
    rw [HZ.out]
    go_enter Tryz.func33, Tryz.ntmps33
    go_wp2
    go_ret3
    exact ⟨_, rfl, Below.refl _ _, nil_images _ _⟩
end Go.Proofs.YtgmgffbfpbkfmaaGreatDoor
