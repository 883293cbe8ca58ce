/- A counter put one further, the program's. -/
import Derived.Test.YtphabggmbdpibaaDoorOnPlain
import Derived.Test.YtphabggmbdpibaaDoorPackRead
namespace Go.Proofs.YtphabggmbdpibaaDoor
open Go.RowKit
open Go.Lib (hid)

theorem three_put {W : World} {b : Nat} {x0 x1 x2 : Value} {t : TypeId} (h : W.heap[b]? = some (.cells #[x0, x1, x2] t)) (v0 v1 v2 : Value) :
    (((W.setCell ⟨b, 0, none⟩ v0).setCell ⟨b, 1, none⟩ v1).setCell ⟨b, 2, none⟩ v2).heap[b]? = some (.cells #[v0, v1, v2] t) :=
  heap_setCell_same _ b 2 _ _ v2 (heap_setCell_same _ b 1 _ _ v1 (heap_setCell_same W b 0 _ _ v0 h))

theorem three_below {B b : Nat} {w W : World} (h : Below B w W) (hb : B ≤ b) (x0 x1 x2 : Value) : Below B w (((W.setCell ⟨b, 0, none⟩ x0).setCell ⟨b, 1, none⟩ x1).setCell ⟨b, 2, none⟩ x2) :=
  ((h.setCell (p := ⟨b, 0, none⟩) hb _).setCell (p := ⟨b, 1, none⟩) hb _).setCell (p := ⟨b, 2, none⟩) hb _

theorem own_three {w : World} {base size n b : Nat} {e : TypeId} {v : Value} {xs : List Value} (h : w.ownsRow base e size v n xs) (h1 : v.ownBlock ≠ some b) (x0 x1 x2 : Value) :
    (((w.setCell ⟨b, 0, none⟩ x0).setCell ⟨b, 1, none⟩ x1).setCell ⟨b, 2, none⟩ x2).ownsRow base e size v n xs :=
  ownsRow_setCell_other (ownsRow_setCell_other (ownsRow_setCell_other h (a := ⟨b, 0, none⟩) h1 x0) (a := ⟨b, 1, none⟩) h1 x1) (a := ⟨b, 2, none⟩) h1 x2

/-- The words behind the change, and the number that stands. -/
def onW (l : List Int) (x cut : Int) : List Int := (putOut 1 l [x + 1] cut).2.1
def onN (x cut : Int) : Int := if 4 ≤ cut then x + 1 else x

theorem on_facts {l : List Int} {x c cut : Int} (h : StoodOne l x c) (hx : inN x) (hc : inN c) (hg : goesB x c cut = true) : putOut 1 l [x + 1] cut = (1, onW l x cut, true) ∧ (onW l x cut).length = 6 ∧ cntB 1 (onW l x cut) = true ∧ cntN 1 (onW l x cut) = onN x cut := by
  obtain ⟨W', hp, hs⟩ := (one_put (cut := cut) h hx hc).2 hg
  have e : onW l x cut = W' := by unfold onW; rw [hp]
  rw [e]
  unfold onN cntB cntN
  split at hs
  · rw [one_read hs]
    rename_i h4
    rw [if_pos h4]
    exact ⟨hp, one_len hs, rfl, rfl⟩
  · rw [one_read hs]
    rename_i h4
    rw [if_neg h4]
    exact ⟨hp, one_len hs, rfl, rfl⟩

def CountedPost (l : List Int) (x c cut : Int) (w : World) (e : Ending) (w' : World) : Prop :=
  ∃ sv, e = .returned (.tuple #[.agg (if goesB x c cut = true then #[.int .i64 1, sv, .int .i64 (onN x cut)] else #[.int .i64 0, .slice none 0 0, .int .i64 0]), .bool (goesB x c cut)]) ∧ Below w.heap.size w w' ∧ w'.ownsRow w.heap.size 2 1 sv (if goesB x c cut = true then 6 else 0) (if goesB x c cut = true then ints (onW l x cut) else [])

set_option maxRecDepth 20000 in
set_option maxHeartbeats 4000000 in
theorem counted_calls (l : List Int) (x c cut : Int) (hst : StoodOne l x c) (hx : inN x) (hc : inN c) (hcn : cut ≤ 9223372036854775807) (a : Value) (w : World) (ha : RowIn w a l) :
    Calls Tryd.prog 212 #[.agg #[.int .i64 1, a, .int .i64 x], .int .i64 cut] w (CountedPost l x c cut w) := by
  unfold CountedPost
  have HA := hid ha
  have H6 := hid (one_len hst)
  have CP := hid (fun a b W ha hb => put_impl 1 l [x + 1] (by rw [H6.out]; decide) (by show 1 ≤ 1048576; decide) cut hcn a b W ha hb)
  unfold PutPost at CP
  obtain ⟨p, cp, rfl, _, _⟩ := ha
  have hxb := hx
  unfold inN at hxb
  obtain ⟨hx0, hx1⟩ := hxb
  obtain ⟨W0, hW0⟩ : ∃ W0, W0 = (w.alloc (.cells #[.int .i64 1, .slice p l.length cp, .int .i64 x] 102)).alloc (.cells #[.int .i64 0, .slice none 0 0, .int .i64 0] 102) := ⟨_, rfl⟩
  have HB0 : Hid (Below w.heap.size w W0) := hid (by rw [hW0]; exact ((Below.refl _ _).alloc (Nat.le_refl _) _).alloc (by simp) _)
  have HV0 : Hid (W0.heap[w.heap.size]? = some (.cells #[.int .i64 1, .slice p l.length cp, .int .i64 x] 102)) := hid (by rw [hW0]; exact heap_two_old _ _)
  have HZ0 : Hid (W0.heap[w.heap.size + 1]? = some (.cells #[.int .i64 0, .slice none 0 0, .int .i64 0] 102)) := hid (by rw [hW0]; exact heap_two_new _ _)
  have hz0 : w.heap.size + 1 < W0.heap.size := by rw [hW0]; simp
  have hz00 : W0.heap.size = w.heap.size + 1 + 1 := by rw [hW0]; simp
  have HZS := hid hz00
  have HW0 := hid hW0
  clear hz00
  have CPW := hid (fun W (hW : Below W0.heap.size W0 W) => CP.out _ _ _ (HA.out.on (HB0.out.trans ((hW.alloc hW.size (.cells #[.int .i64 (x + 1)] 2)).mono HB0.out.size))) (row_lit W (x + 1) 2))
  clear CP hW0
  cases hg : goesB x c cut with
  | false =>
    have hp := (one_put (cut := cut) hst hx hc).1 hg
    rw [hp] at CPW
    dsimp only at CPW
    simp only [Bool.false_eq_true, if_false]
    have CP0 := hid (CPW.out W0 (Below.refl _ _))
    rw [HZS.out] at CP0
    clear CPW hg hp
    go_enter Tryd.func212, Tryd.ntmps212
    go_wp2_with (go_at_call 214; rw [← HW0.out]; refine CP0.out.mono ?_; rintro e w1 ⟨sv, rfl, hb1, ho1⟩; refine Hid.out ?_)
    refine hid ?_
    have hz1 : W0.heap.size + 1 ≤ w1.heap.size := by have := hb1.size; simp at this; exact this
    have HB1 := hid (HB0.out.trans ((((Below.refl _ _).alloc (Nat.le_refl _) _).trans (hb1.mono (by simp))).mono HB0.out.size))
    have HZ1 := hid ((hb1.block (w.heap.size + 1) (by simp; omega)).trans ((((Below.refl W0.heap.size W0).alloc (Nat.le_refl _) _).block _ hz0).trans HZ0.out))
    obtain ⟨q, m, cc, rfl⟩ : ∃ q m cc, sv = .slice q m cc := by
      rcases ho1.2 with ⟨hsv, _⟩ | ⟨g, cc, cur, hsv, _⟩
      · exact ⟨_, _, _, hsv⟩
      · exact ⟨_, _, _, hsv⟩
    clear hb1 ho1
    obtain ⟨W2, hW2⟩ : ∃ W2, W2 = w1.alloc (.cells #[.int .i64 0, .slice q m cc] 29) := ⟨_, rfl⟩
    have hb2 : Below w1.heap.size w1 W2 := by rw [hW2]; exact (Below.refl _ _).alloc (Nat.le_refl _) _
    have HB2 := hid (HB1.out.trans (hb2.mono HB1.out.size))
    have HZ2 := hid ((hb2.block (w.heap.size + 1) (by omega)).trans HZ1.out)
    obtain ⟨z0, z1, z2⟩ := three_cells HZ2.out
    have f0 := three_thaw HZ2.out 0
    have f1 := three_thaw HZ2.out 1
    have f2 := three_thaw HZ2.out 2
    have HBF := hid (three_below HB2.out (Nat.le_succ _) (.int .i64 0) (.slice none 0 0) (.int .i64 0))
    rw [hW2] at z0 z1 z2 f0 f1 f2 HBF
    clear hb2 hW2
    go_wp2
    refine bodyPost_ret (v := .tuple #[.agg #[.int .i64 0, .slice none 0 0, .int .i64 0], .bool false]) (by simp [results, Tryd.results212, go_sem, z0, z1, z2]) rfl ⟨_, rfl, HBF.out, World.ownsRow_nil _ _ _ _⟩
  | true =>
    obtain ⟨hp, hlen, hcb, hcn2⟩ := on_facts (cut := cut) hst hx hc hg
    rw [hp] at CPW
    dsimp only at CPW
    have CP0 := hid (CPW.out W0 (Below.refl _ _))
    rw [HZS.out, hlen] at CP0
    have CR := hid (fun a W ha => readCounter_calls 1 (onW l x cut) (by rw [hlen]; decide) a W ha)
    unfold cntV at CR
    rw [hcb, hcn2] at CR
    simp only [if_true] at CR ⊢
    have HLN := hid hlen
    clear CPW hp hlen hcb hcn2 hg
    generalize onN x cut = y at *
    generalize onW l x cut = W' at *
    go_enter Tryd.func212, Tryd.ntmps212
    go_wp2_with (go_at_call 214; rw [← HW0.out]; refine CP0.out.mono ?_; rintro e w1 ⟨sv, rfl, hb1, ho1⟩; refine Hid.out ?_)
    refine hid ?_
    have hz1 : W0.heap.size + 1 ≤ w1.heap.size := by have := hb1.size; simp at this; exact this
    have HB1 := hid (HB0.out.trans ((((Below.refl _ _).alloc (Nat.le_refl _) _).trans (hb1.mono (by simp))).mono HB0.out.size))
    have HZ1 := hid ((hb1.block (w.heap.size + 1) (by simp; omega)).trans ((((Below.refl W0.heap.size W0).alloc (Nat.le_refl _) _).block _ hz0).trans HZ0.out))
    obtain ⟨g, cc, rfl, hg1, hg2⟩ := own_form ho1 (by decide)
    have hgz : w.heap.size + 1 < g := by simp at hg1; omega
    have HO1 := hid ho1
    clear hb1 ho1 hg1
    obtain ⟨W2, hW2⟩ : ∃ W2, W2 = w1.alloc (.cells #[.int .i64 1, .slice (some ⟨g, 0, none⟩) 6 cc] 29) := ⟨_, rfl⟩
    have hb2 : Below w1.heap.size w1 W2 := by rw [hW2]; exact (Below.refl _ _).alloc (Nat.le_refl _) _
    have HB2 := hid (HB1.out.trans (hb2.mono HB1.out.size))
    have HZ2 := hid ((hb2.block (w.heap.size + 1) (by omega)).trans HZ1.out)
    have HO2 := hid (own_below HO1.out hb2)
    have hz2 := hb2.size
    have HW2 := hid hW2
    clear hb2 hW2
    go_wp2_with (go_at_call 112; rw [← HW2.out]; refine (CR.out _ _ (row_in_own2 HLN.out.symm HO2.out)).mono ?_; rintro e w3 ⟨rfl, hb3⟩; refine Hid.out ?_)
    refine hid ?_
    have HB3 := hid (HB2.out.trans (hb3.mono HB2.out.size))
    have HZ3 := hid ((hb3.block (w.heap.size + 1) (by omega)).trans HZ2.out)
    have HO3 := hid (own_below HO2.out hb3)
    clear hb3
    obtain ⟨z0, z1, z2⟩ := three_cells HZ3.out
    have f0 := three_thaw HZ3.out 0
    have f1 := three_thaw HZ3.out 1
    have f2 := three_thaw HZ3.out 2
    go_wp2
    refine bodyPost_ret (v := .tuple #[.agg #[.int .i64 1, .slice (some ⟨g, 0, none⟩) 6 cc, .int .i64 y], .bool true]) (by simp [results, Tryd.results212, go_sem, z0, z1, z2]) rfl ⟨_, rfl, three_below HB3.out (Nat.le_succ _) _ _ _, ?_⟩
    exact own_three (own_raise HO3.out (by simp; omega)) (fun e => by have e2 : g = w.heap.size + 1 := Option.some.inj e; omega) _ _ _
end Go.Proofs.YtphabggmbdpibaaDoor
