/- NvPut, the program's and the specification's, by one post. -/
import Derived.Test.YtknipcnlaaapoaaNvApS
import Derived.Test.YtknipcnlaaapoaaNvWrBoth
namespace Go.Proofs.Ytknipcnlaaapoaa
open Go.RowKit
open Go.Lib (hid)

theorem writesOut_few (s : Int) (ws l : List Int) (hl : l.length ≤ 1048576) : (writesOut s ws l).1 ≤ 1048579 ∧ (writesOut s ws l).2.1.length = 2 * (writesOut s ws l).1 := by
  unfold writesOut
  split
  · exact ⟨by show l.length + 3 ≤ _; omega, by show (putW _ _ _).length = 2 * (l.length + 3); rw [putW_len]⟩
  · exact ⟨Nat.zero_le _, rfl⟩

/-- What NvPut answers: the size, the words, and whether. -/
def putOut (s : Int) (l vs : List Int) (cut : Int) : Int × List Int × Bool :=
  if (writesOut s l vs).2.2 = true then applyOut s l (writesOut s l vs).1 (writesOut s l vs).2.1 cut else (0, [], false)

def PutPost (s : Int) (l vs : List Int) (cut : Int) (w : World) (e : Ending) (w' : World) : Prop :=
  ∃ sv, e = .returned (.tuple #[.agg #[.int .i64 (putOut s l vs cut).1, sv], .bool (putOut s l vs cut).2.2]) ∧ Below w.heap.size w w' ∧ w'.ownsRow w.heap.size 2 1 sv (putOut s l vs cut).2.1.length (ints (putOut s l vs cut).2.1)

set_option maxRecDepth 20000 in
set_option maxHeartbeats 2000000 in
theorem put_impl (s : Int) (l vs : List Int) (hl : l.length ≤ 1048576) (hv : vs.length ≤ 1048576) (cut : Int) (hcn : cut ≤ 9223372036854775807) (a b : Value) (w : World) (ha : RowIn w a l) (hb : RowIn w b vs) :
    Calls Try.prog 7 #[.agg #[.int .i64 s, a], b, .int .i64 cut] w (PutPost s l vs cut w) := by
  unfold PutPost putOut
  have HA := hid ha
  have HB := hid hb
  have CW := hid (fun a W ha hb => writes_impl s l vs hl hv a b W ha hb)
  unfold WritesPost at CW
  obtain ⟨_, hFl⟩ := writesOut_few s l vs hv
  generalize (writesOut s l vs).1 = n at *
  generalize (writesOut s l vs).2.1 = F at *
  generalize (writesOut s l vs).2.2 = ok at *
  have HFL := hid hFl
  obtain ⟨p, c, rfl, _, _⟩ := ha
  obtain ⟨q, d, rfl, _, _⟩ := hb
  have HX := hid (boxes_first w #[.int .i64 s, .slice p l.length c])
  obtain ⟨W0, hW0⟩ : ∃ W0, W0 = (w.alloc (.cells #[.int .i64 s, .slice p l.length c] 26)).alloc (.cells #[.int .i64 0, .slice none 0 0] 26) := ⟨_, rfl⟩
  rw [← hW0] at HX
  have HW0 := hid hW0
  clear hW0 hFl
  cases ok with
  | false =>
    rw [if_neg (by decide)]
    go_enter Try.func7, Try.ntmps7
    go_wp2_with (go_at_call 15; rw [← HW0.out]; refine (CW.out _ _ (HA.out.on HX.out.below) (HB.out.on HX.out.below)).mono ?_; rintro e w1 ⟨sv, rfl, hb1, _⟩; refine Hid.out ?_)
    refine hid ?_
    have HX1 := hid (HX.out.on hb1)
    obtain ⟨k2, k3⟩ := var_cells HX1.out.z
    have f2 := var_thaw HX1.out.z 0
    have f3 := var_thaw HX1.out.z 1
    have hz := HX1.out.size
    clear hb1
    go_wp2
    exact bodyPost_ret (v := .tuple #[.agg #[.int .i64 0, .slice none 0 0], .bool false]) (by simp [results, Try.results7, go_sem, k2, k3]) rfl ⟨_, rfl, HX1.out.stays _ _, World.ownsRow_nil _ _ _ _⟩
  | true =>
    rw [if_pos rfl]
    have CA := hid (fun a b W ha hb => apply_impl s l hl n F cut hcn a b W ha hb)
    unfold ApplyPost at CA
    generalize (applyOut s l n F cut).1 = rs at *
    generalize (applyOut s l n F cut).2.1 = L at *
    generalize (applyOut s l n F cut).2.2 = rb at *
    go_enter Try.func7, Try.ntmps7
    go_wp2_with (go_at_call 15; rw [← HW0.out]; refine (CW.out _ _ (HA.out.on HX.out.below) (HB.out.on HX.out.below)).mono ?_; rintro e w1 ⟨sv, rfl, hb1, ho1⟩; refine Hid.out ?_)
    refine hid ?_
    have HX1 := hid (HX.out.on hb1)
    have HR1 := hid (wrow_own HFL.out ho1)
    obtain ⟨k0, k1⟩ := var_cells HX1.out.v
    clear hb1 ho1
    go_wp2_with (go_at_call 16; refine (CA.out _ _ _ (HA.out.on HX1.out.below) HR1.out).mono ?_; rintro e w2 ⟨sv2, rfl, hb2, ho2⟩; refine Hid.out ?_)
    refine hid ?_
    obtain ⟨p2, c2, rfl, _, _⟩ := row_in_own ho2
    have HX2 := hid (HX1.out.on hb2)
    have HO2 := hid ho2
    have hz1 := HX1.out.size
    have hz := HX2.out.size
    obtain ⟨k2, k3⟩ := var_cells HX2.out.z
    have f2 := var_thaw HX2.out.z 0
    have f3 := var_thaw HX2.out.z 1
    clear hb2 ho2 k0 k1
    go_wp2
    refine bodyPost_ret (v := .tuple #[.agg #[.int .i64 rs, .slice p2 L.length c2], .bool rb]) (by simp [results, Try.results7, go_sem, k2, k3]) rfl ⟨_, rfl, HX2.out.stays _ _, ?_⟩
    have h6 := ownsRow_setCell_below (ownsRow_setCell_below HO2.out (a := ⟨w.heap.size + 1, 0, none⟩) (by show w.heap.size + 1 < _; omega) (.int .i64 rs)) (a := ⟨w.heap.size + 1, 1, none⟩) (by show w.heap.size + 1 < _; omega) (.slice p2 L.length c2)
    exact own_raise h6 (by omega)

set_option maxRecDepth 20000 in
set_option maxHeartbeats 2000000 in
theorem put_spec (s : Int) (l vs : List Int) (hl : l.length ≤ 1048576) (hv : vs.length ≤ 1048576) (cut : Int) (hcn : cut ≤ 9223372036854775807) (a b : Value) (w : World) (ha : RowIn w a l) (hb : RowIn w b vs) (hnil : ∀ c, b = .slice none vs.length c → c = 0) :
    Calls Try.prog 6 #[.agg #[.int .i64 s, a], b, .int .i64 cut] w (PutPost s l vs cut w) := by
  unfold PutPost putOut
  have HA := hid ha
  have HB := hid hb
  have CW := hid (fun a W ha hb => writes_spec s l vs hl hv a b W ha hb hnil)
  unfold WritesPost at CW
  obtain ⟨_, hFl⟩ := writesOut_few s l vs hv
  generalize (writesOut s l vs).1 = n at *
  generalize (writesOut s l vs).2.1 = F at *
  generalize (writesOut s l vs).2.2 = ok at *
  have HFL := hid hFl
  obtain ⟨p, c, rfl, _, _⟩ := ha
  obtain ⟨q, d, rfl, _, _⟩ := hb
  have HX := hid (boxes_first w #[.int .i64 s, .slice p l.length c])
  obtain ⟨W0, hW0⟩ : ∃ W0, W0 = (w.alloc (.cells #[.int .i64 s, .slice p l.length c] 26)).alloc (.cells #[.int .i64 0, .slice none 0 0] 26) := ⟨_, rfl⟩
  rw [← hW0] at HX
  have HW0 := hid hW0
  clear hW0 hFl
  cases ok with
  | false =>
    rw [if_neg (by decide)]
    go_enter Try.func6, Try.ntmps6
    go_wp2_with (go_at_call 13; rw [← HW0.out]; refine (CW.out _ _ (HA.out.on HX.out.below) (HB.out.on HX.out.below)).mono ?_; rintro e w1 ⟨sv, rfl, hb1, _⟩; refine Hid.out ?_)
    refine hid ?_
    have HX1 := hid (HX.out.on hb1)
    obtain ⟨k2, k3⟩ := var_cells HX1.out.z
    have f2 := var_thaw HX1.out.z 0
    have f3 := var_thaw HX1.out.z 1
    have hz := HX1.out.size
    clear hb1
    go_wp2
    exact bodyPost_ret (v := .tuple #[.agg #[.int .i64 0, .slice none 0 0], .bool false]) (by simp [results, Try.results6, go_sem, k2, k3]) rfl ⟨_, rfl, HX1.out.stays _ _, World.ownsRow_nil _ _ _ _⟩
  | true =>
    rw [if_pos rfl]
    have CA := hid (fun a b W ha hb => apply_spec s l hl n F cut hcn a b W ha hb)
    unfold ApplyPost at CA
    generalize (applyOut s l n F cut).1 = rs at *
    generalize (applyOut s l n F cut).2.1 = L at *
    generalize (applyOut s l n F cut).2.2 = rb at *
    go_enter Try.func6, Try.ntmps6
    go_wp2_with (go_at_call 13; rw [← HW0.out]; refine (CW.out _ _ (HA.out.on HX.out.below) (HB.out.on HX.out.below)).mono ?_; rintro e w1 ⟨sv, rfl, hb1, ho1⟩; refine Hid.out ?_)
    refine hid ?_
    have HX1 := hid (HX.out.on hb1)
    have HR1 := hid (wrow_own HFL.out ho1)
    obtain ⟨k0, k1⟩ := var_cells HX1.out.v
    clear hb1 ho1
    go_wp2_with (go_at_call 14; refine (CA.out _ _ _ (HA.out.on HX1.out.below) HR1.out).mono ?_; rintro e w2 ⟨sv2, rfl, hb2, ho2⟩; refine Hid.out ?_)
    refine hid ?_
    obtain ⟨p2, c2, rfl, _, _⟩ := row_in_own ho2
    have HX2 := hid (HX1.out.on hb2)
    have HO2 := hid ho2
    have hz1 := HX1.out.size
    have hz := HX2.out.size
    obtain ⟨k2, k3⟩ := var_cells HX2.out.z
    have f2 := var_thaw HX2.out.z 0
    have f3 := var_thaw HX2.out.z 1
    clear hb2 ho2 k0 k1
    go_wp2
    refine bodyPost_ret (v := .tuple #[.agg #[.int .i64 rs, .slice p2 L.length c2], .bool rb]) (by simp [results, Try.results6, go_sem, k2, k3]) rfl ⟨_, rfl, HX2.out.stays _ _, ?_⟩
    have h6 := ownsRow_setCell_below (ownsRow_setCell_below HO2.out (a := ⟨w.heap.size + 1, 0, none⟩) (by show w.heap.size + 1 < _; omega) (.int .i64 rs)) (a := ⟨w.heap.size + 1, 1, none⟩) (by show w.heap.size + 1 < _; omega) (.slice p2 L.length c2)
    exact own_raise h6 (by omega)

theorem putOut_few (s : Int) (l vs : List Int) (cut : Int) (hl : l.length ≤ 1048576) : (putOut s l vs cut).2.1.length ≤ 1048576 := by
  unfold putOut
  split
  · unfold applyOut
    split
    · show (doneW _ l _).length ≤ _
      rw [doneW_len]
      exact hl
    · exact Nat.zero_le _
  · exact Nat.zero_le _
end Go.Proofs.Ytknipcnlaaapoaa
