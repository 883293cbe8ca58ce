/- DeviceNew, the specification's and the program's. Written by a program of ours. -/
import Derived.Test.YtnlnfjchnjdfoaaDoorPackRoot
import Derived.Test.YtnlnfjchnjdfoaaDoorMeasBoth
namespace Go.Proofs.YtnlnfjchnjdfoaaDoor
open Go.RowKit
open Go.Lib (hid)

theorem below_dev {B b : Nat} {w W : World} (h : Below B w W) (hb : B ≤ b) (x0 x1 x2 x3 x4 x5 x6 x7 x8 x9 x10 x11 x12 x13 : Value) : Below B w ((((((((((((((W.setCell ⟨b, 0, none⟩ x0).setCell ⟨b, 1, none⟩ x1).setCell ⟨b, 2, none⟩ x2).setCell ⟨b, 3, none⟩ x3).setCell ⟨b, 4, none⟩ x4).setCell ⟨b, 5, none⟩ x5).setCell ⟨b, 6, none⟩ x6).setCell ⟨b, 7, none⟩ x7).setCell ⟨b, 8, none⟩ x8).setCell ⟨b, 9, none⟩ x9).setCell ⟨b, 10, none⟩ x10).setCell ⟨b, 11, none⟩ x11).setCell ⟨b, 12, none⟩ x12).setCell ⟨b, 13, none⟩ x13) :=
  ((((((((((((((h.setCell (p := ⟨b, 0, none⟩) hb _).setCell (p := ⟨b, 1, none⟩) hb _).setCell (p := ⟨b, 2, none⟩) hb _).setCell (p := ⟨b, 3, none⟩) hb _).setCell (p := ⟨b, 4, none⟩) hb _).setCell (p := ⟨b, 5, none⟩) hb _).setCell (p := ⟨b, 6, none⟩) hb _).setCell (p := ⟨b, 7, none⟩) hb _).setCell (p := ⟨b, 8, none⟩) hb _).setCell (p := ⟨b, 9, none⟩) hb _).setCell (p := ⟨b, 10, none⟩) hb _).setCell (p := ⟨b, 11, none⟩) hb _).setCell (p := ⟨b, 12, none⟩) hb _).setCell (p := ⟨b, 13, none⟩) hb _)

theorem own_dev {w : World} {base size n b : Nat} {e : TypeId} {v : Value} {xs : List Value} (h : w.ownsRow base e size v n xs) (h1 : v.ownBlock ≠ some b) (x0 x1 x2 x3 x4 x5 x6 x7 x8 x9 x10 x11 x12 x13 : Value) :
    ((((((((((((((w.setCell ⟨b, 0, none⟩ x0).setCell ⟨b, 1, none⟩ x1).setCell ⟨b, 2, none⟩ x2).setCell ⟨b, 3, none⟩ x3).setCell ⟨b, 4, none⟩ x4).setCell ⟨b, 5, none⟩ x5).setCell ⟨b, 6, none⟩ x6).setCell ⟨b, 7, none⟩ x7).setCell ⟨b, 8, none⟩ x8).setCell ⟨b, 9, none⟩ x9).setCell ⟨b, 10, none⟩ x10).setCell ⟨b, 11, none⟩ x11).setCell ⟨b, 12, none⟩ x12).setCell ⟨b, 13, none⟩ x13).ownsRow base e size v n xs :=
  (ownsRow_setCell_other (ownsRow_setCell_other (ownsRow_setCell_other (ownsRow_setCell_other (ownsRow_setCell_other (ownsRow_setCell_other (ownsRow_setCell_other (ownsRow_setCell_other (ownsRow_setCell_other (ownsRow_setCell_other (ownsRow_setCell_other (ownsRow_setCell_other (ownsRow_setCell_other (ownsRow_setCell_other h (a := ⟨b, 0, none⟩) h1 x0) (a := ⟨b, 1, none⟩) h1 x1) (a := ⟨b, 2, none⟩) h1 x2) (a := ⟨b, 3, none⟩) h1 x3) (a := ⟨b, 4, none⟩) h1 x4) (a := ⟨b, 5, none⟩) h1 x5) (a := ⟨b, 6, none⟩) h1 x6) (a := ⟨b, 7, none⟩) h1 x7) (a := ⟨b, 8, none⟩) h1 x8) (a := ⟨b, 9, none⟩) h1 x9) (a := ⟨b, 10, none⟩) h1 x10) (a := ⟨b, 11, none⟩) h1 x11) (a := ⟨b, 12, none⟩) h1 x12) (a := ⟨b, 13, none⟩) h1 x13)

/-- Is there a Device of these; its name, key, size and words. -/
def newD (name key : ByteArray) : Bool × ByteArray × ByteArray × Int × List Int := if (secretB key.data.toList && nameB name.data.toList) = true then (true, name, key, 1, zeroW) else (false, ⟨#[]⟩, ⟨#[]⟩, 0, [])

def NewDPost (name key : ByteArray) (w : World) (e : Ending) (w' : World) : Prop :=
  ∃ sv, e = .returned (.tuple #[.agg #[.string (newD name key).2.1, .string (newD name key).2.2.1, .int .i64 (newD name key).2.2.2.1, sv, .bool false, .slice none 0 0, .slice none 0 0, .int .i64 0, .int .i64 0, .int .i64 0, .string ⟨#[]⟩, .string ⟨#[]⟩, .slice none 0 0, .slice none 0 0], .bool (newD name key).1]) ∧ Below w.heap.size w w' ∧ w'.ownsRow w.heap.size 2 1 sv (newD name key).2.2.2.2.length (ints (newD name key).2.2.2.2)

set_option maxRecDepth 20000 in
set_option maxHeartbeats 2000000 in
theorem deviceNew_spec (name key : ByteArray) (w : World) : Calls Tryd.prog 40 #[.string name, .string key] w (NewDPost name key w) := by
  unfold NewDPost
  have CN := hid (fun W (_ : Below w.heap.size w W) => rootNew_spec key W)
  have CK := hid (fun W => sname_calls name W)
  unfold NewRPost at CN
  obtain ⟨W0, hW0⟩ : ∃ W0, W0 = w.alloc (.cells #[.string ⟨#[]⟩, .string ⟨#[]⟩, .int .i64 0, .slice none 0 0, .bool false, .slice none 0 0, .slice none 0 0, .int .i64 0, .int .i64 0, .int .i64 0, .string ⟨#[]⟩, .string ⟨#[]⟩, .slice none 0 0, .slice none 0 0] 71) := ⟨_, rfl⟩
  have HB0 : Hid (Below w.heap.size w W0) := hid (by rw [hW0]; exact (Below.refl _ _).alloc (Nat.le_refl _) _)
  have HC0 : Hid (W0.heap[w.heap.size]? = some (.cells #[.string ⟨#[]⟩, .string ⟨#[]⟩, .int .i64 0, .slice none 0 0, .bool false, .slice none 0 0, .slice none 0 0, .int .i64 0, .int .i64 0, .int .i64 0, .string ⟨#[]⟩, .string ⟨#[]⟩, .slice none 0 0, .slice none 0 0] 71)) := hid (by rw [hW0]; exact heap_alloc_new _ _)
  have hz0 : w.heap.size < W0.heap.size := by rw [hW0]; simp
  have HW0 := hid hW0
  clear hW0
  cases hsec : secretB key.data.toList with
  | false =>
    have HO : Hid (newD name key = (false, ⟨#[]⟩, ⟨#[]⟩, 0, [])) := hid (by unfold newD; rw [hsec]; rfl)
    have HE : Hid (newR key = (false, ⟨#[]⟩, 0, [])) := hid (by unfold newR; rw [hsec, if_neg (by decide)])
    rw [HE.out] at CN
    rw [HO.out]
    clear hsec
    go_enter Tryd.func40, Tryd.ntmps40
    go_wp2_with (go_at_call 85; rw [← HW0.out]; refine (CN.out _ HB0.out).mono ?_; rintro e w1 ⟨sv, rfl, hb1, ho1⟩; refine Hid.out ?_)
    refine hid ?_
    have HB1 := hid (HB0.out.trans (hb1.mono HB0.out.size))
    have HC1 := hid ((hb1.block _ hz0).trans HC0.out)
    have hz1 : w.heap.size < w1.heap.size := Nat.lt_of_lt_of_le hz0 hb1.size
    obtain ⟨p, c, rfl, _, _⟩ := row_in_own ho1
    clear hb1 ho1
    have z0 := (cell_of_row _ _ 0 _ _ _ HC1.out).trans rfl
    have f0 := five_thaw HC1.out 0
    have z1 := (cell_of_row _ _ 1 _ _ _ HC1.out).trans rfl
    have f1 := five_thaw HC1.out 1
    have z2 := (cell_of_row _ _ 2 _ _ _ HC1.out).trans rfl
    have f2 := five_thaw HC1.out 2
    have z3 := (cell_of_row _ _ 3 _ _ _ HC1.out).trans rfl
    have f3 := five_thaw HC1.out 3
    have z4 := (cell_of_row _ _ 4 _ _ _ HC1.out).trans rfl
    have f4 := five_thaw HC1.out 4
    have z5 := (cell_of_row _ _ 5 _ _ _ HC1.out).trans rfl
    have f5 := five_thaw HC1.out 5
    have z6 := (cell_of_row _ _ 6 _ _ _ HC1.out).trans rfl
    have f6 := five_thaw HC1.out 6
    have z7 := (cell_of_row _ _ 7 _ _ _ HC1.out).trans rfl
    have f7 := five_thaw HC1.out 7
    have z8 := (cell_of_row _ _ 8 _ _ _ HC1.out).trans rfl
    have f8 := five_thaw HC1.out 8
    have z9 := (cell_of_row _ _ 9 _ _ _ HC1.out).trans rfl
    have f9 := five_thaw HC1.out 9
    have z10 := (cell_of_row _ _ 10 _ _ _ HC1.out).trans rfl
    have f10 := five_thaw HC1.out 10
    have z11 := (cell_of_row _ _ 11 _ _ _ HC1.out).trans rfl
    have f11 := five_thaw HC1.out 11
    have z12 := (cell_of_row _ _ 12 _ _ _ HC1.out).trans rfl
    have f12 := five_thaw HC1.out 12
    have z13 := (cell_of_row _ _ 13 _ _ _ HC1.out).trans rfl
    have f13 := five_thaw HC1.out 13
    go_wp2
    refine bodyPost_ret (v := .tuple #[.agg #[.string ⟨#[]⟩, .string ⟨#[]⟩, .int .i64 0, .slice none 0 0, .bool false, .slice none 0 0, .slice none 0 0, .int .i64 0, .int .i64 0, .int .i64 0, .string ⟨#[]⟩, .string ⟨#[]⟩, .slice none 0 0, .slice none 0 0], .bool false]) (by simp [results, Tryd.results40, go_sem, cell_alloc_old, hz1, z0, z1, z2, z3, z4, z5, z6, z7, z8, z9, z10, z11, z12, z13]) rfl ⟨_, rfl, ?_, World.ownsRow_nil _ _ _ _⟩
    have hbe := below_dev HB1.out (Nat.le_refl _) (.string ⟨#[]⟩) (.string ⟨#[]⟩) (.int .i64 0) (.slice none 0 0) (.bool false) (.slice none 0 0) (.slice none 0 0) (.int .i64 0) (.int .i64 0) (.int .i64 0) (.string ⟨#[]⟩) (.string ⟨#[]⟩) (.slice none 0 0) (.slice none 0 0)
    exact hbe.alloc hbe.size _
  | true =>
    have HE : Hid (newR key = (true, key, 1, zeroW)) := hid (by unfold newR; rw [hsec, if_pos rfl])
    rw [HE.out] at CN
    obtain ⟨L, hL⟩ : ∃ L, L = zeroW := ⟨_, rfl⟩
    cases hnm : nameB name.data.toList with
    | false =>
      have HO : Hid (newD name key = (false, ⟨#[]⟩, ⟨#[]⟩, 0, [])) := hid (by unfold newD; rw [hsec, hnm]; rfl)
      rw [← hL] at CN
      rw [HO.out]
      rw [hnm] at CK
      clear hsec hnm hL
      go_enter Tryd.func40, Tryd.ntmps40
      go_wp2_with (go_at_call 85; rw [← HW0.out]; refine (CN.out _ HB0.out).mono ?_; rintro e w1 ⟨sv, rfl, hb1, ho1⟩; refine Hid.out ?_)
      refine hid ?_
      have HB1 := hid (HB0.out.trans (hb1.mono HB0.out.size))
      have HC1 := hid ((hb1.block _ hz0).trans HC0.out)
      have hz1 : w.heap.size < w1.heap.size := Nat.lt_of_lt_of_le hz0 hb1.size
      have HLT := hid ho1.lt
      have HO1 := hid ho1
      obtain ⟨p, c, rfl, _, _⟩ := row_in_own ho1
      clear hb1 ho1
      go_wp2_with (go_at_call 86; refine (CK.out _).mono ?_; rintro e w3 ⟨rfl, e3⟩; rw [e3]; clear e3 w3; refine Hid.out ?_)
      refine hid ?_
      have z0 := (cell_of_row _ _ 0 _ _ _ HC1.out).trans rfl
      have f0 := five_thaw HC1.out 0
      have z1 := (cell_of_row _ _ 1 _ _ _ HC1.out).trans rfl
      have f1 := five_thaw HC1.out 1
      have z2 := (cell_of_row _ _ 2 _ _ _ HC1.out).trans rfl
      have f2 := five_thaw HC1.out 2
      have z3 := (cell_of_row _ _ 3 _ _ _ HC1.out).trans rfl
      have f3 := five_thaw HC1.out 3
      have z4 := (cell_of_row _ _ 4 _ _ _ HC1.out).trans rfl
      have f4 := five_thaw HC1.out 4
      have z5 := (cell_of_row _ _ 5 _ _ _ HC1.out).trans rfl
      have f5 := five_thaw HC1.out 5
      have z6 := (cell_of_row _ _ 6 _ _ _ HC1.out).trans rfl
      have f6 := five_thaw HC1.out 6
      have z7 := (cell_of_row _ _ 7 _ _ _ HC1.out).trans rfl
      have f7 := five_thaw HC1.out 7
      have z8 := (cell_of_row _ _ 8 _ _ _ HC1.out).trans rfl
      have f8 := five_thaw HC1.out 8
      have z9 := (cell_of_row _ _ 9 _ _ _ HC1.out).trans rfl
      have f9 := five_thaw HC1.out 9
      have z10 := (cell_of_row _ _ 10 _ _ _ HC1.out).trans rfl
      have f10 := five_thaw HC1.out 10
      have z11 := (cell_of_row _ _ 11 _ _ _ HC1.out).trans rfl
      have f11 := five_thaw HC1.out 11
      have z12 := (cell_of_row _ _ 12 _ _ _ HC1.out).trans rfl
      have f12 := five_thaw HC1.out 12
      have z13 := (cell_of_row _ _ 13 _ _ _ HC1.out).trans rfl
      have f13 := five_thaw HC1.out 13
      go_wp2
      have hbe := below_dev HB1.out (Nat.le_refl w.heap.size) (.string ⟨#[]⟩) (.string ⟨#[]⟩) (.int .i64 0) (.slice none 0 0) (.bool false) (.slice none 0 0) (.slice none 0 0) (.int .i64 0) (.int .i64 0) (.int .i64 0) (.string ⟨#[]⟩) (.string ⟨#[]⟩) (.slice none 0 0) (.slice none 0 0)
      exact bodyPost_ret (v := .tuple #[.agg #[.string ⟨#[]⟩, .string ⟨#[]⟩, .int .i64 0, .slice none 0 0, .bool false, .slice none 0 0, .slice none 0 0, .int .i64 0, .int .i64 0, .int .i64 0, .string ⟨#[]⟩, .string ⟨#[]⟩, .slice none 0 0, .slice none 0 0], .bool false]) (by simp [results, Tryd.results40, go_sem, cell_alloc_old, hz1, z0, z1, z2, z3, z4, z5, z6, z7, z8, z9, z10, z11, z12, z13]) rfl ⟨_, rfl, hbe.alloc hbe.size _, World.ownsRow_nil _ _ _ _⟩
    | true =>
      have HO : Hid (newD name key = (true, name, key, 1, L)) := hid (by unfold newD; rw [hsec, hnm, hL]; rfl)
      rw [← hL] at CN
      rw [HO.out]
      rw [hnm] at CK
      clear hsec hnm hL
      go_enter Tryd.func40, Tryd.ntmps40
      go_wp2_with (go_at_call 85; rw [← HW0.out]; refine (CN.out _ HB0.out).mono ?_; rintro e w1 ⟨sv, rfl, hb1, ho1⟩; refine Hid.out ?_)
      refine hid ?_
      have HB1 := hid (HB0.out.trans (hb1.mono HB0.out.size))
      have HC1 := hid ((hb1.block _ hz0).trans HC0.out)
      have hz1 : w.heap.size < w1.heap.size := Nat.lt_of_lt_of_le hz0 hb1.size
      have HLT := hid ho1.lt
      have HO1 := hid ho1
      obtain ⟨p, c, rfl, _, _⟩ := row_in_own ho1
      clear hb1 ho1
      go_wp2_with (go_at_call 86; refine (CK.out _).mono ?_; rintro e w3 ⟨rfl, e3⟩; rw [e3]; clear e3 w3; refine Hid.out ?_)
      refine hid ?_
      have z0 := (cell_of_row _ _ 0 _ _ _ HC1.out).trans rfl
      have f0 := five_thaw HC1.out 0
      have z1 := (cell_of_row _ _ 1 _ _ _ HC1.out).trans rfl
      have f1 := five_thaw HC1.out 1
      have z2 := (cell_of_row _ _ 2 _ _ _ HC1.out).trans rfl
      have f2 := five_thaw HC1.out 2
      have z3 := (cell_of_row _ _ 3 _ _ _ HC1.out).trans rfl
      have f3 := five_thaw HC1.out 3
      have z4 := (cell_of_row _ _ 4 _ _ _ HC1.out).trans rfl
      have f4 := five_thaw HC1.out 4
      have z5 := (cell_of_row _ _ 5 _ _ _ HC1.out).trans rfl
      have f5 := five_thaw HC1.out 5
      have z6 := (cell_of_row _ _ 6 _ _ _ HC1.out).trans rfl
      have f6 := five_thaw HC1.out 6
      have z7 := (cell_of_row _ _ 7 _ _ _ HC1.out).trans rfl
      have f7 := five_thaw HC1.out 7
      have z8 := (cell_of_row _ _ 8 _ _ _ HC1.out).trans rfl
      have f8 := five_thaw HC1.out 8
      have z9 := (cell_of_row _ _ 9 _ _ _ HC1.out).trans rfl
      have f9 := five_thaw HC1.out 9
      have z10 := (cell_of_row _ _ 10 _ _ _ HC1.out).trans rfl
      have f10 := five_thaw HC1.out 10
      have z11 := (cell_of_row _ _ 11 _ _ _ HC1.out).trans rfl
      have f11 := five_thaw HC1.out 11
      have z12 := (cell_of_row _ _ 12 _ _ _ HC1.out).trans rfl
      have f12 := five_thaw HC1.out 12
      have z13 := (cell_of_row _ _ 13 _ _ _ HC1.out).trans rfl
      have f13 := five_thaw HC1.out 13
      go_wp2
      have hbe := below_dev HB1.out (Nat.le_refl w.heap.size) (.string name) (.string key) (.int .i64 1) (.slice p L.length c) (.bool false) (.slice none 0 0) (.slice none 0 0) (.int .i64 0) (.int .i64 0) (.int .i64 0) (.string ⟨#[]⟩) (.string ⟨#[]⟩) (.slice none 0 0) (.slice none 0 0)
      exact bodyPost_ret (v := .tuple #[.agg #[.string name, .string key, .int .i64 1, .slice p L.length c, .bool false, .slice none 0 0, .slice none 0 0, .int .i64 0, .int .i64 0, .int .i64 0, .string ⟨#[]⟩, .string ⟨#[]⟩, .slice none 0 0, .slice none 0 0], .bool true]) (by simp [results, Tryd.results40, go_sem, cell_alloc_old, hz1, z0, z1, z2, z3, z4, z5, z6, z7, z8, z9, z10, z11, z12, z13]) rfl ⟨_, rfl, hbe.alloc hbe.size _, own_below (own_dev (own_raise HO1.out HB0.out.size) (fun e => by have := (HLT.out _ e).1; omega) (.string name) (.string key) (.int .i64 1) (.slice p L.length c) (.bool false) (.slice none 0 0) (.slice none 0 0) (.int .i64 0) (.int .i64 0) (.int .i64 0) (.string ⟨#[]⟩) (.string ⟨#[]⟩) (.slice none 0 0) (.slice none 0 0)) ((Below.refl _ _).alloc (Nat.le_refl _) _)⟩

set_option maxRecDepth 20000 in
set_option maxHeartbeats 2000000 in
theorem deviceNew_impl (name key : ByteArray) (w : World) (hT : Tab w) (hG : 0 < w.heap.size) : Calls Tryd.prog 41 #[.string name, .string key] w (NewDPost name key w) := by
  unfold NewDPost
  have CN := hid (fun W (hb : Below w.heap.size w W) => rootNew_impl key W (tab_on hT hG hb) (Nat.lt_of_lt_of_le hG hb.size))
  have CK := hid (fun W (hb : Below w.heap.size w W) => kind_impl name W (tab_on hT hG hb) (Nat.lt_of_lt_of_le hG hb.size))
  have HSN := hid (name_node name)
  clear hT hG
  generalize (nodeOf name).1 = kk at *
  have HNK : Hid (∀ sb : Bool, nameB name.data.toList = sb → ((kk : Int) != 1) = !sb) := hid (fun sb h => by
    have h2 := HSN.out
    rw [h] at h2
    cases sb with
    | false => have := of_decide_eq_false h2.symm; rw [Bool.not_false, bne_iff_ne]; omega
    | true => have := of_decide_eq_true h2.symm; rw [this]; rfl)
  unfold NewRPost at CN
  obtain ⟨W0, hW0⟩ : ∃ W0, W0 = w.alloc (.cells #[.string ⟨#[]⟩, .string ⟨#[]⟩, .int .i64 0, .slice none 0 0, .bool false, .slice none 0 0, .slice none 0 0, .int .i64 0, .int .i64 0, .int .i64 0, .string ⟨#[]⟩, .string ⟨#[]⟩, .slice none 0 0, .slice none 0 0] 71) := ⟨_, rfl⟩
  have HB0 : Hid (Below w.heap.size w W0) := hid (by rw [hW0]; exact (Below.refl _ _).alloc (Nat.le_refl _) _)
  have HC0 : Hid (W0.heap[w.heap.size]? = some (.cells #[.string ⟨#[]⟩, .string ⟨#[]⟩, .int .i64 0, .slice none 0 0, .bool false, .slice none 0 0, .slice none 0 0, .int .i64 0, .int .i64 0, .int .i64 0, .string ⟨#[]⟩, .string ⟨#[]⟩, .slice none 0 0, .slice none 0 0] 71)) := hid (by rw [hW0]; exact heap_alloc_new _ _)
  have hz0 : w.heap.size < W0.heap.size := by rw [hW0]; simp
  have HW0 := hid hW0
  clear hW0
  cases hsec : secretB key.data.toList with
  | false =>
    have HO : Hid (newD name key = (false, ⟨#[]⟩, ⟨#[]⟩, 0, [])) := hid (by unfold newD; rw [hsec]; rfl)
    have HE : Hid (newR key = (false, ⟨#[]⟩, 0, [])) := hid (by unfold newR; rw [hsec, if_neg (by decide)])
    rw [HE.out] at CN
    rw [HO.out]
    clear hsec
    go_enter Tryd.func41, Tryd.ntmps41
    go_wp2_with (go_at_call 87; rw [← HW0.out]; refine (CN.out _ HB0.out).mono ?_; rintro e w1 ⟨sv, rfl, hb1, ho1⟩; refine Hid.out ?_)
    refine hid ?_
    have HB1 := hid (HB0.out.trans (hb1.mono HB0.out.size))
    have HC1 := hid ((hb1.block _ hz0).trans HC0.out)
    have hz1 : w.heap.size < w1.heap.size := Nat.lt_of_lt_of_le hz0 hb1.size
    obtain ⟨p, c, rfl, _, _⟩ := row_in_own ho1
    clear hb1 ho1
    have z0 := (cell_of_row _ _ 0 _ _ _ HC1.out).trans rfl
    have f0 := five_thaw HC1.out 0
    have z1 := (cell_of_row _ _ 1 _ _ _ HC1.out).trans rfl
    have f1 := five_thaw HC1.out 1
    have z2 := (cell_of_row _ _ 2 _ _ _ HC1.out).trans rfl
    have f2 := five_thaw HC1.out 2
    have z3 := (cell_of_row _ _ 3 _ _ _ HC1.out).trans rfl
    have f3 := five_thaw HC1.out 3
    have z4 := (cell_of_row _ _ 4 _ _ _ HC1.out).trans rfl
    have f4 := five_thaw HC1.out 4
    have z5 := (cell_of_row _ _ 5 _ _ _ HC1.out).trans rfl
    have f5 := five_thaw HC1.out 5
    have z6 := (cell_of_row _ _ 6 _ _ _ HC1.out).trans rfl
    have f6 := five_thaw HC1.out 6
    have z7 := (cell_of_row _ _ 7 _ _ _ HC1.out).trans rfl
    have f7 := five_thaw HC1.out 7
    have z8 := (cell_of_row _ _ 8 _ _ _ HC1.out).trans rfl
    have f8 := five_thaw HC1.out 8
    have z9 := (cell_of_row _ _ 9 _ _ _ HC1.out).trans rfl
    have f9 := five_thaw HC1.out 9
    have z10 := (cell_of_row _ _ 10 _ _ _ HC1.out).trans rfl
    have f10 := five_thaw HC1.out 10
    have z11 := (cell_of_row _ _ 11 _ _ _ HC1.out).trans rfl
    have f11 := five_thaw HC1.out 11
    have z12 := (cell_of_row _ _ 12 _ _ _ HC1.out).trans rfl
    have f12 := five_thaw HC1.out 12
    have z13 := (cell_of_row _ _ 13 _ _ _ HC1.out).trans rfl
    have f13 := five_thaw HC1.out 13
    go_wp2
    refine bodyPost_ret (v := .tuple #[.agg #[.string ⟨#[]⟩, .string ⟨#[]⟩, .int .i64 0, .slice none 0 0, .bool false, .slice none 0 0, .slice none 0 0, .int .i64 0, .int .i64 0, .int .i64 0, .string ⟨#[]⟩, .string ⟨#[]⟩, .slice none 0 0, .slice none 0 0], .bool false]) (by simp [results, Tryd.results41, go_sem, cell_alloc_old, hz1, z0, z1, z2, z3, z4, z5, z6, z7, z8, z9, z10, z11, z12, z13]) rfl ⟨_, rfl, ?_, World.ownsRow_nil _ _ _ _⟩
    have hbe := below_dev HB1.out (Nat.le_refl _) (.string ⟨#[]⟩) (.string ⟨#[]⟩) (.int .i64 0) (.slice none 0 0) (.bool false) (.slice none 0 0) (.slice none 0 0) (.int .i64 0) (.int .i64 0) (.int .i64 0) (.string ⟨#[]⟩) (.string ⟨#[]⟩) (.slice none 0 0) (.slice none 0 0)
    exact hbe.alloc hbe.size _
  | true =>
    have HE : Hid (newR key = (true, key, 1, zeroW)) := hid (by unfold newR; rw [hsec, if_pos rfl])
    rw [HE.out] at CN
    obtain ⟨L, hL⟩ : ∃ L, L = zeroW := ⟨_, rfl⟩
    cases hnm : nameB name.data.toList with
    | false =>
      have HO : Hid (newD name key = (false, ⟨#[]⟩, ⟨#[]⟩, 0, [])) := hid (by unfold newD; rw [hsec, hnm]; rfl)
      rw [← hL] at CN
      rw [HO.out]
      have hk := HNK.out _ hnm
      rw [Bool.not_false] at hk
      clear hsec hnm hL
      go_enter Tryd.func41, Tryd.ntmps41
      go_wp2_with (go_at_call 87; rw [← HW0.out]; refine (CN.out _ HB0.out).mono ?_; rintro e w1 ⟨sv, rfl, hb1, ho1⟩; refine Hid.out ?_)
      refine hid ?_
      have HB1 := hid (HB0.out.trans (hb1.mono HB0.out.size))
      have HC1 := hid ((hb1.block _ hz0).trans HC0.out)
      have hz1 : w.heap.size < w1.heap.size := Nat.lt_of_lt_of_le hz0 hb1.size
      have HLT := hid ho1.lt
      have HO1 := hid ho1
      obtain ⟨p, c, rfl, _, _⟩ := row_in_own ho1
      clear hb1 ho1
      obtain ⟨W2, hW2⟩ : ∃ W2, W2 = w1.alloc (.cells #[.string key, .int .i64 1, .slice p L.length c, .bool false, .slice none 0 0] 45) := ⟨_, rfl⟩
      have hb2 : Below w1.heap.size w1 W2 := by rw [hW2]; exact (Below.refl _ _).alloc (Nat.le_refl _) _
      have HB2 := hid (HB1.out.trans (hb2.mono HB1.out.size))
      have HC2 := hid ((hb2.block _ hz1).trans HC1.out)
      have HO2 := hid (own_below HO1.out hb2)
      have HR2 : Hid (W2.heap[w1.heap.size]? = some (.cells #[.string key, .int .i64 1, .slice p L.length c, .bool false, .slice none 0 0] 45)) := hid (by rw [hW2]; exact heap_alloc_new _ _)
      have hz2 : w1.heap.size < W2.heap.size := by rw [hW2]; simp
      have HW2 := hid hW2
      clear hb2 hW2
      go_wp2_with (go_at_call 88; rw [← HW2.out]; refine (CK.out _ HB2.out).mono ?_; rintro e w3 ⟨rfl, hb3⟩; refine Hid.out ?_)
      refine hid ?_
      have HB3 := hid (HB2.out.trans (hb3.mono HB2.out.size))
      have HC3 := hid ((hb3.block w.heap.size (by omega)).trans HC2.out)
      have HO3 := hid (own_below HO2.out hb3)
      have HR3 := hid ((hb3.block w1.heap.size (by omega)).trans HR2.out)
      obtain ⟨r0, r1, r2, r3, r4⟩ := five_cells HR3.out
      clear hb3
      have z0 := (cell_of_row _ _ 0 _ _ _ HC3.out).trans rfl
      have f0 := five_thaw HC3.out 0
      have z1 := (cell_of_row _ _ 1 _ _ _ HC3.out).trans rfl
      have f1 := five_thaw HC3.out 1
      have z2 := (cell_of_row _ _ 2 _ _ _ HC3.out).trans rfl
      have f2 := five_thaw HC3.out 2
      have z3 := (cell_of_row _ _ 3 _ _ _ HC3.out).trans rfl
      have f3 := five_thaw HC3.out 3
      have z4 := (cell_of_row _ _ 4 _ _ _ HC3.out).trans rfl
      have f4 := five_thaw HC3.out 4
      have z5 := (cell_of_row _ _ 5 _ _ _ HC3.out).trans rfl
      have f5 := five_thaw HC3.out 5
      have z6 := (cell_of_row _ _ 6 _ _ _ HC3.out).trans rfl
      have f6 := five_thaw HC3.out 6
      have z7 := (cell_of_row _ _ 7 _ _ _ HC3.out).trans rfl
      have f7 := five_thaw HC3.out 7
      have z8 := (cell_of_row _ _ 8 _ _ _ HC3.out).trans rfl
      have f8 := five_thaw HC3.out 8
      have z9 := (cell_of_row _ _ 9 _ _ _ HC3.out).trans rfl
      have f9 := five_thaw HC3.out 9
      have z10 := (cell_of_row _ _ 10 _ _ _ HC3.out).trans rfl
      have f10 := five_thaw HC3.out 10
      have z11 := (cell_of_row _ _ 11 _ _ _ HC3.out).trans rfl
      have f11 := five_thaw HC3.out 11
      have z12 := (cell_of_row _ _ 12 _ _ _ HC3.out).trans rfl
      have f12 := five_thaw HC3.out 12
      have z13 := (cell_of_row _ _ 13 _ _ _ HC3.out).trans rfl
      have f13 := five_thaw HC3.out 13
      go_wp2
      have hbe := below_dev HB3.out (Nat.le_refl w.heap.size) (.string ⟨#[]⟩) (.string ⟨#[]⟩) (.int .i64 0) (.slice none 0 0) (.bool false) (.slice none 0 0) (.slice none 0 0) (.int .i64 0) (.int .i64 0) (.int .i64 0) (.string ⟨#[]⟩) (.string ⟨#[]⟩) (.slice none 0 0) (.slice none 0 0)
      exact bodyPost_ret (v := .tuple #[.agg #[.string ⟨#[]⟩, .string ⟨#[]⟩, .int .i64 0, .slice none 0 0, .bool false, .slice none 0 0, .slice none 0 0, .int .i64 0, .int .i64 0, .int .i64 0, .string ⟨#[]⟩, .string ⟨#[]⟩, .slice none 0 0, .slice none 0 0], .bool false]) (by simp [results, Tryd.results41, go_sem, z0, z1, z2, z3, z4, z5, z6, z7, z8, z9, z10, z11, z12, z13]) rfl ⟨_, rfl, hbe, World.ownsRow_nil _ _ _ _⟩
    | true =>
      have HO : Hid (newD name key = (true, name, key, 1, L)) := hid (by unfold newD; rw [hsec, hnm, hL]; rfl)
      rw [← hL] at CN
      rw [HO.out]
      have hk := HNK.out _ hnm
      rw [Bool.not_true] at hk
      clear hsec hnm hL
      go_enter Tryd.func41, Tryd.ntmps41
      go_wp2_with (go_at_call 87; rw [← HW0.out]; refine (CN.out _ HB0.out).mono ?_; rintro e w1 ⟨sv, rfl, hb1, ho1⟩; refine Hid.out ?_)
      refine hid ?_
      have HB1 := hid (HB0.out.trans (hb1.mono HB0.out.size))
      have HC1 := hid ((hb1.block _ hz0).trans HC0.out)
      have hz1 : w.heap.size < w1.heap.size := Nat.lt_of_lt_of_le hz0 hb1.size
      have HLT := hid ho1.lt
      have HO1 := hid ho1
      obtain ⟨p, c, rfl, _, _⟩ := row_in_own ho1
      clear hb1 ho1
      obtain ⟨W2, hW2⟩ : ∃ W2, W2 = w1.alloc (.cells #[.string key, .int .i64 1, .slice p L.length c, .bool false, .slice none 0 0] 45) := ⟨_, rfl⟩
      have hb2 : Below w1.heap.size w1 W2 := by rw [hW2]; exact (Below.refl _ _).alloc (Nat.le_refl _) _
      have HB2 := hid (HB1.out.trans (hb2.mono HB1.out.size))
      have HC2 := hid ((hb2.block _ hz1).trans HC1.out)
      have HO2 := hid (own_below HO1.out hb2)
      have HR2 : Hid (W2.heap[w1.heap.size]? = some (.cells #[.string key, .int .i64 1, .slice p L.length c, .bool false, .slice none 0 0] 45)) := hid (by rw [hW2]; exact heap_alloc_new _ _)
      have hz2 : w1.heap.size < W2.heap.size := by rw [hW2]; simp
      have HW2 := hid hW2
      clear hb2 hW2
      go_wp2_with (go_at_call 88; rw [← HW2.out]; refine (CK.out _ HB2.out).mono ?_; rintro e w3 ⟨rfl, hb3⟩; refine Hid.out ?_)
      refine hid ?_
      have HB3 := hid (HB2.out.trans (hb3.mono HB2.out.size))
      have HC3 := hid ((hb3.block w.heap.size (by omega)).trans HC2.out)
      have HO3 := hid (own_below HO2.out hb3)
      have HR3 := hid ((hb3.block w1.heap.size (by omega)).trans HR2.out)
      obtain ⟨r0, r1, r2, r3, r4⟩ := five_cells HR3.out
      clear hb3
      have z0 := (cell_of_row _ _ 0 _ _ _ HC3.out).trans rfl
      have f0 := five_thaw HC3.out 0
      have z1 := (cell_of_row _ _ 1 _ _ _ HC3.out).trans rfl
      have f1 := five_thaw HC3.out 1
      have z2 := (cell_of_row _ _ 2 _ _ _ HC3.out).trans rfl
      have f2 := five_thaw HC3.out 2
      have z3 := (cell_of_row _ _ 3 _ _ _ HC3.out).trans rfl
      have f3 := five_thaw HC3.out 3
      have z4 := (cell_of_row _ _ 4 _ _ _ HC3.out).trans rfl
      have f4 := five_thaw HC3.out 4
      have z5 := (cell_of_row _ _ 5 _ _ _ HC3.out).trans rfl
      have f5 := five_thaw HC3.out 5
      have z6 := (cell_of_row _ _ 6 _ _ _ HC3.out).trans rfl
      have f6 := five_thaw HC3.out 6
      have z7 := (cell_of_row _ _ 7 _ _ _ HC3.out).trans rfl
      have f7 := five_thaw HC3.out 7
      have z8 := (cell_of_row _ _ 8 _ _ _ HC3.out).trans rfl
      have f8 := five_thaw HC3.out 8
      have z9 := (cell_of_row _ _ 9 _ _ _ HC3.out).trans rfl
      have f9 := five_thaw HC3.out 9
      have z10 := (cell_of_row _ _ 10 _ _ _ HC3.out).trans rfl
      have f10 := five_thaw HC3.out 10
      have z11 := (cell_of_row _ _ 11 _ _ _ HC3.out).trans rfl
      have f11 := five_thaw HC3.out 11
      have z12 := (cell_of_row _ _ 12 _ _ _ HC3.out).trans rfl
      have f12 := five_thaw HC3.out 12
      have z13 := (cell_of_row _ _ 13 _ _ _ HC3.out).trans rfl
      have f13 := five_thaw HC3.out 13
      go_wp2
      have hbe := below_dev HB3.out (Nat.le_refl w.heap.size) (.string name) (.string key) (.int .i64 1) (.slice p L.length c) (.bool false) (.slice none 0 0) (.slice none 0 0) (.int .i64 0) (.int .i64 0) (.int .i64 0) (.string ⟨#[]⟩) (.string ⟨#[]⟩) (.slice none 0 0) (.slice none 0 0)
      exact bodyPost_ret (v := .tuple #[.agg #[.string name, .string key, .int .i64 1, .slice p L.length c, .bool false, .slice none 0 0, .slice none 0 0, .int .i64 0, .int .i64 0, .int .i64 0, .string ⟨#[]⟩, .string ⟨#[]⟩, .slice none 0 0, .slice none 0 0], .bool true]) (by simp [results, Tryd.results41, go_sem, z0, z1, z2, z3, z4, z5, z6, z7, z8, z9, z10, z11, z12, z13]) rfl ⟨_, rfl, hbe, own_dev (own_raise HO3.out HB0.out.size) (fun e => by have := (HLT.out _ e).1; omega) (.string name) (.string key) (.int .i64 1) (.slice p L.length c) (.bool false) (.slice none 0 0) (.slice none 0 0) (.int .i64 0) (.int .i64 0) (.int .i64 0) (.string ⟨#[]⟩) (.string ⟨#[]⟩) (.slice none 0 0) (.slice none 0 0)⟩

end Go.Proofs.YtnlnfjchnjdfoaaDoor
