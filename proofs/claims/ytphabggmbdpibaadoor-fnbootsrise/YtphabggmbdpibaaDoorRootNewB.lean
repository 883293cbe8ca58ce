/- RootNew, the specification's and the program's. -/
import Derived.Test.YtphabggmbdpibaaDoorRootSpec
import Derived.Test.YtphabggmbdpibaaDoorRootHelp2
import Derived.Test.YtphabggmbdpibaaDoorNvNewBoth
import Derived.Test.YtphabggmbdpibaaDoorMakeImpl
namespace Go.Proofs.YtphabggmbdpibaaDoor
open Go.RowKit
open Go.Lib (hid)

/-- The words of a counter that is new. -/
def zeroW : List Int := newWords [0]

theorem newOut_zero : newOut [0] = (1, zeroW, true) := by
  unfold newOut
  rw [if_pos (by decide)]
  rfl

/-- Is there a Root of this key; its key, size and words. -/
def newR (key : ByteArray) : Bool × ByteArray × Int × List Int := if secretB key.data.toList = true then (true, key, 1, zeroW) else (false, ⟨#[]⟩, 0, [])

def NewRPost (key : ByteArray) (w : World) (e : Ending) (w' : World) : Prop :=
  ∃ sv, e = .returned (.tuple #[.agg #[.string (newR key).2.1, .int .i64 (newR key).2.2.1, sv, .bool false, .slice none 0 0], .bool (newR key).1]) ∧ Below w.heap.size w w' ∧ w'.ownsRow w.heap.size 2 1 sv (newR key).2.2.2.length (ints (newR key).2.2.2)

theorem below_five {B b : Nat} {w W : World} (h : Below B w W) (hb : B ≤ b) (x0 x1 x2 x3 x4 : Value) : Below B w (((((W.setCell ⟨b, 0, none⟩ x0).setCell ⟨b, 1, none⟩ x1).setCell ⟨b, 2, none⟩ x2).setCell ⟨b, 3, none⟩ x3).setCell ⟨b, 4, none⟩ x4) :=
  ((((h.setCell (p := ⟨b, 0, none⟩) hb _).setCell (p := ⟨b, 1, none⟩) hb _).setCell (p := ⟨b, 2, none⟩) hb _).setCell (p := ⟨b, 3, none⟩) hb _).setCell (p := ⟨b, 4, none⟩) hb _

theorem own_five {w : World} {base size n b : Nat} {e : TypeId} {v : Value} {xs : List Value} (h : w.ownsRow base e size v n xs) (h1 : v.ownBlock ≠ some b) (x0 x1 x2 x3 x4 : Value) :
    (((((w.setCell ⟨b, 0, none⟩ x0).setCell ⟨b, 1, none⟩ x1).setCell ⟨b, 2, none⟩ x2).setCell ⟨b, 3, none⟩ x3).setCell ⟨b, 4, none⟩ x4).ownsRow base e size v n xs :=
  ownsRow_setCell_other (ownsRow_setCell_other (ownsRow_setCell_other (ownsRow_setCell_other (ownsRow_setCell_other h (a := ⟨b, 0, none⟩) h1 x0) (a := ⟨b, 1, none⟩) h1 x1) (a := ⟨b, 2, none⟩) h1 x2) (a := ⟨b, 3, none⟩) h1 x3) (a := ⟨b, 4, none⟩) h1 x4

theorem cell_alloc_old {W : World} {X : Obj} {b o : Nat} (h : b < W.heap.size) : (W.alloc X).cell? ⟨b, o, none⟩ = W.cell? ⟨b, o, none⟩ :=
  ((Below.refl W.heap.size W).alloc (Nat.le_refl _) X).cell (p := ⟨b, o, none⟩) h

set_option maxRecDepth 20000 in
set_option maxHeartbeats 1000000 in
theorem rootNew_impl (key : ByteArray) (w : World) (hT : Tab w) (hG : 0 < w.heap.size) : Calls Tryd.prog 18 #[.string key] w (NewRPost key w) := by
  unfold NewRPost
  have CN := hid (fun a W (ha : RowIn W a [0]) => new_impl [0] (by decide) a W ha)
  unfold NewPost at CN
  rw [newOut_zero] at CN
  simp only [] at CN
  obtain ⟨L, hL⟩ : ∃ L, L = zeroW := ⟨_, rfl⟩
  rw [← hL] at CN
  have HL := hid hL
  clear hL
  have CK := hid (fun W (hb : Below w.heap.size w W) => kind_impl key W (tab_on hT hG hb) (Nat.lt_of_lt_of_le hG hb.size))
  have HSN := hid (secret_node key)
  clear hT
  generalize (nodeOf key).1 = kk at *
  obtain ⟨W0, hW0⟩ : ∃ W0, W0 = w.alloc (.cells #[.string ⟨#[]⟩, .int .i64 0, .slice none 0 0, .bool false, .slice none 0 0] 31) := ⟨_, rfl⟩
  have HB0 : Hid (Below w.heap.size w W0) := hid (by rw [hW0]; exact (Below.refl _ _).alloc (Nat.le_refl _) _)
  have HC0 : Hid (W0.heap[w.heap.size]? = some (.cells #[.string ⟨#[]⟩, .int .i64 0, .slice none 0 0, .bool false, .slice none 0 0] 31)) := hid (by rw [hW0]; exact heap_alloc_new _ _)
  have hz0 : w.heap.size < W0.heap.size := by rw [hW0]; simp
  have HW0 := hid hW0
  clear hW0
  obtain ⟨W1, hW1⟩ : ∃ W1, W1 = W0.alloc (.cells #[.int .i64 0] 2) := ⟨_, rfl⟩
  have HB1 : Hid (Below w.heap.size w W1) := hid (by rw [hW1]; exact HB0.out.alloc HB0.out.size _)
  have HC1 : Hid (W1.heap[w.heap.size]? = some (.cells #[.string ⟨#[]⟩, .int .i64 0, .slice none 0 0, .bool false, .slice none 0 0] 31)) := hid (by rw [hW1]; exact (((Below.refl W0.heap.size W0).alloc (Nat.le_refl _) _).block _ hz0).trans HC0.out)
  have HR1 : Hid (RowIn W1 (.slice (some ⟨w.heap.size + 1, 0, none⟩) 1 1) [0]) := hid (by
    have h := row_lit W0 0 2
    rw [show W0.heap.size = w.heap.size + 1 by rw [HW0.out]; simp] at h
    rw [hW1]; exact h)
  have hz1 : w.heap.size < W1.heap.size := by rw [hW1]; simp; omega
  have HW1 := hid hW1
  clear hW1
  have HNK : Hid (∀ sb : Bool, secretB key.data.toList = sb → ((kk : Int) != 2) = !sb) := hid (fun sb h => by
    have h2 := HSN.out
    rw [h] at h2
    cases sb with
    | false => have := of_decide_eq_false h2.symm; rw [Bool.not_false, bne_iff_ne]; omega
    | true => have := of_decide_eq_true h2.symm; rw [this]; rfl)
  go_enter Tryd.func18, Tryd.ntmps18
  go_wp2_with (go_at_call 63; rw [← HW0.out, ← HW1.out]; refine (CN.out _ _ HR1.out).mono ?_; rintro e w2 ⟨sv, rfl, hb2, ho2⟩; refine Hid.out ?_)
  refine hid ?_
  have HB2 := hid (HB1.out.trans (hb2.mono HB1.out.size))
  have HC2 := hid ((hb2.block _ hz1).trans HC1.out)
  have hz2 : w.heap.size < w2.heap.size := Nat.lt_of_lt_of_le hz1 hb2.size
  obtain ⟨p, c, rfl, _, _⟩ := row_in_own ho2
  have HLT := hid ho2.lt
  obtain ⟨W3, hW3⟩ : ∃ W3, W3 = w2.alloc (.cells #[.int .i64 1, .slice p L.length c] 29) := ⟨_, rfl⟩
  have hb3 : Below w2.heap.size w2 W3 := by rw [hW3]; exact (Below.refl _ _).alloc (Nat.le_refl _) _
  have HB3 := hid (HB2.out.trans (hb3.mono HB2.out.size))
  have HC3 := hid ((hb3.block _ hz2).trans HC2.out)
  have HO3 := hid (own_below ho2 hb3)
  have HV3 : Hid (W3.heap[w2.heap.size]? = some (.cells #[.int .i64 1, .slice p L.length c] 29)) := hid (by rw [hW3]; exact heap_alloc_new _ _)
  have hz3 : w2.heap.size < W3.heap.size := by rw [hW3]; simp
  have HW3 := hid hW3
  clear hb2 ho2 hb3 hW3
  go_wp2_with (go_at_call 64; rw [← HW3.out]; refine (CK.out _ HB3.out).mono ?_; rintro e w4 ⟨rfl, hb4⟩; refine Hid.out ?_)
  refine hid ?_
  have HB4 := hid (HB3.out.trans (hb4.mono HB3.out.size))
  have HC4 := hid ((hb4.block _ (Nat.lt_trans hz2 hz3)).trans HC3.out)
  have HO4 := hid (own_below HO3.out hb4)
  have HV4 := hid ((hb4.block _ hz3).trans HV3.out)
  obtain ⟨v0, v1⟩ := var_cells HV4.out
  obtain ⟨z0, z1, z2, z3, z4⟩ := five_cells HC4.out
  have f0 := five_thaw HC4.out 0
  have f1 := five_thaw HC4.out 1
  have f2 := five_thaw HC4.out 2
  have f3 := five_thaw HC4.out 3
  have f4 := five_thaw HC4.out 4
  clear hb4
  cases hsec : secretB key.data.toList with
  | false =>
    have hk := HNK.out _ hsec
    rw [Bool.not_false] at hk
    have HE : Hid (newR key = (false, ⟨#[]⟩, 0, [])) := hid (by unfold newR; rw [hsec, if_neg (by decide)])
    clear hsec
    go_wp2
    refine bodyPost_ret (v := .tuple #[.agg #[.string ⟨#[]⟩, .int .i64 0, .slice none 0 0, .bool false, .slice none 0 0], .bool false]) (by simp [results, Tryd.results18, go_sem, z0, z1, z2, z3, z4]) rfl ⟨_, by rw [HE.out], ?_, by rw [HE.out]; exact World.ownsRow_nil _ _ _ _⟩
    exact below_five HB4.out (Nat.le_refl _) _ _ _ _ _
  | true =>
    have hk := HNK.out _ hsec
    rw [Bool.not_true] at hk
    have HE : Hid (newR key = (true, key, 1, L)) := hid (by unfold newR; rw [hsec, if_pos rfl, HL.out])
    clear hsec
    go_wp2
    refine bodyPost_ret (v := .tuple #[.agg #[.string key, .int .i64 1, .slice p L.length c, .bool false, .slice none 0 0], .bool true]) (by simp [results, Tryd.results18, go_sem, z0, z1, z2, z3, z4]) rfl ⟨_, by rw [HE.out], ?_, ?_⟩
    · exact below_five HB4.out (Nat.le_refl _) _ _ _ _ _
    · rw [HE.out]
      exact own_five (own_raise HO4.out HB1.out.size) (fun e => by have := HLT.out _ e; omega) _ _ _ _ _
end Go.Proofs.YtphabggmbdpibaaDoor
