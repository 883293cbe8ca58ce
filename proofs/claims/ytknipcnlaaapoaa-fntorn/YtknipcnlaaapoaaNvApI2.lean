/- The program's NvApply. -/
import Derived.Test.YtknipcnlaaapoaaNvApW
import Derived.Test.YtknipcnlaaapoaaTwoBox
namespace Go.Proofs.Ytknipcnlaaapoaa
open Go.RowKit
open Go.Lib (hid)

/-- Can these writes be done to these words? -/
def applyB (s : Int) (l : List Int) (n : Nat) (F : List Int) (cnt : Int) : Bool := formB s l && !decide (cnt < 0) && canB l.length F n

def applyOut (s : Int) (l : List Int) (n : Nat) (F : List Int) (cnt : Int) : Int × List Int × Bool :=
  if applyB s l n F cnt = true then (s, doneW F l (min cnt.toNat n), true) else (0, [], false)

def ApplyPost (s : Int) (l : List Int) (n : Nat) (F : List Int) (cnt : Int) (w : World) (e : Ending) (w' : World) : Prop :=
  ∃ sv, e = .returned (.tuple #[.agg #[.int .i64 (applyOut s l n F cnt).1, sv], .bool (applyOut s l n F cnt).2.2]) ∧ Below w.heap.size w w' ∧ w'.ownsRow w.heap.size 2 1 sv (applyOut s l n F cnt).2.1.length (ints (applyOut s l n F cnt).2.1)

theorem powered_calls (p : Option Addr) (m c : Nat) (n : Int) (w : World) :
    Calls Try.prog 39 #[.slice p m c, .int .i64 n] w fun e w' => e = .returned (.func (.func 49) #[] #[.pointer (some ⟨w.heap.size + 1, 0, none⟩), .pointer (some ⟨w.heap.size, 0, none⟩)]) ∧ w' = (w.alloc (.cells #[.slice p m c] 24)).alloc (.cells #[.int .i64 n] 2) := by
  have hmf : ∀ (fn : Fn) (first cap : Array Value) (w : World), (Instr.makeFunc fn first cap).run Try.prog w = .ok (.func fn first cap) w := fun _ _ _ _ => rfl
  go_enter Try.func39, Try.ntmps39
  go_wp2
  go_ret
  exact ⟨rfl, rfl⟩

theorem two_boxes (w : World) (x y : Array Value) (s t : TypeId) : Below w.heap.size w ((w.alloc (.cells x s)).alloc (.cells y t)) := ((Below.refl _ _).alloc (Nat.le_refl _) _).alloc (by simp) _

/-- What stands while the program's NvApply asks: its own copy of the Nv, and the result's place. -/
structure Boxes (w : World) (V : Array Value) (W : World) : Prop where
  v : W.heap[w.heap.size]? = some (.cells V 26)
  z : W.heap[w.heap.size + 1]? = some (.cells #[.int .i64 0, .slice none 0 0] 26)
  below : Below w.heap.size w W
  size : w.heap.size + 2 ≤ W.heap.size

theorem Boxes.on {w : World} {V : Array Value} {W W' : World} (h : Boxes w V W) (hb : Below W.heap.size W W') : Boxes w V W' :=
  ⟨(hb.block _ (by have := h.size; omega)).trans h.v, (hb.block _ (by have := h.size; omega)).trans h.z, h.below.trans (hb.mono h.below.size), Nat.le_trans h.size hb.size⟩

theorem boxes_first (w : World) (V : Array Value) : Boxes w V ((w.alloc (.cells V 26)).alloc (.cells #[.int .i64 0, .slice none 0 0] 26)) :=
  ⟨heap_two_old _ _, heap_two_new _ _, ((Below.refl _ _).alloc (Nat.le_refl _) _).alloc (by simp) _, Nat.le_of_eq (size_two _ _ _).symm⟩

/-- The result's place, set to nothing anew. -/
theorem Boxes.stays {w : World} {V : Array Value} {W : World} (h : Boxes w V W) (x y : Value) : Below w.heap.size w ((W.setCell ⟨w.heap.size + 1, 0, none⟩ x).setCell ⟨w.heap.size + 1, 1, none⟩ y) :=
  (h.below.setCell (p := ⟨w.heap.size + 1, 0, none⟩) (Nat.le_succ _) _).setCell (p := ⟨w.heap.size + 1, 1, none⟩) (Nat.le_succ _) _

set_option maxRecDepth 20000 in
set_option maxHeartbeats 2000000 in
theorem apply_no (s : Int) (l : List Int) (hl : l.length ≤ 1048576) (n : Nat) (F : List Int) (cnt : Int) (hno : applyB s l n F cnt = false) (a b : Value) (w : World) (ha : RowIn w a l) (hb : WRow w b n F) :
    Calls Try.prog 16 #[.agg #[.int .i64 s, a], b, .int .i64 cnt] w fun e w' => e = .returned (.tuple #[.agg #[.int .i64 0, .slice none 0 0], .bool false]) ∧ Below w.heap.size w w' := by
  have HA := hid ha
  have HWB := hid hb
  have CF := hid (fun a W (hW : RowIn W a l) => formed_calls s l hl a W hW)
  have CC := hid (fun a b W (hW : RowIn W a l) (hb : WRow W b n F) => canWrite_calls s l n F a b W hW hb)
  obtain ⟨p, c, rfl, hc, _⟩ := ha
  obtain ⟨q, d, rfl, _, _⟩ := hb.2
  have HX := hid (boxes_first w #[.int .i64 s, .slice p l.length c])
  obtain ⟨W0, hW0⟩ : ∃ W0, W0 = (w.alloc (.cells #[.int .i64 s, .slice p l.length c] 26)).alloc (.cells #[.int .i64 0, .slice none 0 0] 26) := ⟨_, rfl⟩
  rw [← hW0] at HX
  have HW0 := hid hW0
  clear hb hW0
  unfold applyB at hno
  cases hf : formB s l with
  | false =>
    rw [hf] at CF
    clear hno hf
    go_enter Try.func16, Try.ntmps16
    go_wp2_with (go_at_call 17; rw [← HW0.out]; refine (CF.out _ _ (HA.out.on HX.out.below)).mono ?_; rintro e w1 ⟨rfl, hb1⟩; refine Hid.out ?_)
    refine hid ?_
    have HX1 := hid (HX.out.on hb1)
    obtain ⟨k2, k3⟩ := var_cells HX1.out.z
    have f2 := var_thaw HX1.out.z 0
    have f3 := var_thaw HX1.out.z 1
    have hz := HX1.out.size
    clear hb1
    go_wp2
    exact bodyPost_ret (v := .tuple #[.agg #[.int .i64 0, .slice none 0 0], .bool false]) (by simp [results, Try.results16, go_sem, k2, k3]) rfl ⟨rfl, HX1.out.stays _ _⟩
  | true =>
    rw [hf] at CF hno
    by_cases hn : cnt < 0
    · clear hno hf
      go_enter Try.func16, Try.ntmps16
      go_wp2_with (go_at_call 17; rw [← HW0.out]; refine (CF.out _ _ (HA.out.on HX.out.below)).mono ?_; rintro e w1 ⟨rfl, hb1⟩; refine Hid.out ?_)
      refine hid ?_
      have HX1 := hid (HX.out.on hb1)
      obtain ⟨k2, k3⟩ := var_cells HX1.out.z
      have f2 := var_thaw HX1.out.z 0
      have f3 := var_thaw HX1.out.z 1
      have hz := HX1.out.size
      clear hb1
      go_wp2
      exact bodyPost_ret (v := .tuple #[.agg #[.int .i64 0, .slice none 0 0], .bool false]) (by simp [results, Try.results16, go_sem, k2, k3]) rfl ⟨rfl, HX1.out.stays _ _⟩
    · rw [decide_eq_false hn] at hno
      simp only [Bool.not_false, Bool.true_and] at hno
      rw [hno] at CC
      clear hno hf
      go_enter Try.func16, Try.ntmps16
      go_wp2_with (go_at_call 17; rw [← HW0.out]; refine (CF.out _ _ (HA.out.on HX.out.below)).mono ?_; rintro e w1 ⟨rfl, hb1⟩; refine Hid.out ?_)
      refine hid ?_
      have HX1 := hid (HX.out.on hb1)
      obtain ⟨k0, k1⟩ := var_cells HX1.out.v
      clear hb1
      go_wp2_with (go_at_call 37; refine (CC.out _ _ _ (HA.out.on HX1.out.below) (HWB.out.on HX1.out.below)).mono ?_; rintro e w2 ⟨rfl, hb2⟩; refine Hid.out ?_)
      refine hid ?_
      have HX2 := hid (HX1.out.on hb2)
      obtain ⟨k2, k3⟩ := var_cells HX2.out.z
      have f2 := var_thaw HX2.out.z 0
      have f3 := var_thaw HX2.out.z 1
      have hz := HX2.out.size
      clear hb2 k0 k1
      go_wp2
      exact bodyPost_ret (v := .tuple #[.agg #[.int .i64 0, .slice none 0 0], .bool false]) (by simp [results, Try.results16, go_sem, k2, k3]) rfl ⟨rfl, HX2.out.stays _ _⟩

theorem canB_in {N n : Nat} {F : List Int} (h : canB N F n = true) (i : Nat) (hi : i < n) : 0 ≤ F.getD (i * 2) 0 ∧ F.getD (i * 2) 0 < (N : Int) := by
  unfold canB at h
  rw [Bool.and_eq_true] at h
  have := List.all_eq_true.1 h.2 i (List.mem_range.2 hi)
  unfold wokB at this
  simp only [Bool.and_eq_true, Bool.not_eq_true', decide_eq_false_iff_not] at this
  omega

set_option maxRecDepth 20000 in
set_option maxHeartbeats 4000000 in
theorem apply_yes (s : Int) (l : List Int) (hl : l.length ≤ 1048576) (n : Nat) (F : List Int) (cnt : Nat) (hcn : (cnt : Int) ≤ 9223372036854775807) (hf : formB s l = true) (hcan : canB l.length F n = true) (a b : Value) (w : World) (ha : RowIn w a l) (hb : WRow w b n F) :
    Calls Try.prog 16 #[.agg #[.int .i64 s, a], b, .int .i64 cnt] w fun e w' => ∃ sv, e = .returned (.tuple #[.agg #[.int .i64 s, sv], .bool true]) ∧ Below w.heap.size w w' ∧ w'.ownsRow w.heap.size 2 1 sv (doneW F l (min cnt n)).length (ints (doneW F l (min cnt n))) := by
  have HA := hid ha
  have HWB := hid hb
  have CF := hid (fun a W (hW : RowIn W a l) => formed_calls s l hl a W hW)
  have CC := hid (fun a b W (hW : RowIn W a l) (hb : WRow W b n F) => canWrite_calls s l n F a b W hW hb)
  have HIN := hid (fun i hi => canB_in hcan i hi)
  have hne : l ≠ [] := by
    intro e
    have := (formB_iff.1 hf)
    obtain ⟨h1, _, h3, _⟩ := this
    rw [e] at h3
    simp at h3
    omega
  obtain ⟨i0, hi0, hz0, hz1, hz2⟩ := info_parts intInfo
  have CL := hid (fun b off cap W (hcl : ∀ j u, (ints l)[j]? = some u → W.cell? ⟨b, off + j, none⟩ = some u) => Try.slices_Clone i0 _ 1 8 hi0 hz0 hz1 hz2 rfl (by decide) Try.sizeOf2 b off l.length cap (ints l) W (by rw [ints_len, Nat.mul_one]) (by unfold maxLen; omega) (by omega) hcl (ints_one _))
  rw [hf] at CF
  rw [hcan] at CC
  obtain ⟨p, c, rfl, hc, hp⟩ := ha
  obtain ⟨q, d, rfl, _, _⟩ := hb.2
  obtain ⟨g0, o0, rfl, hg0, hcell⟩ := hp hne
  have HCELL := hid hcell
  have HX := hid (boxes_first w #[.int .i64 s, .slice (some ⟨g0, o0, none⟩) l.length c])
  obtain ⟨W0, hW0⟩ : ∃ W0, W0 = (w.alloc (.cells #[.int .i64 s, .slice (some ⟨g0, o0, none⟩) l.length c] 26)).alloc (.cells #[.int .i64 0, .slice none 0 0] 26) := ⟨_, rfl⟩
  rw [← hW0] at HX
  have HW0 := hid hW0
  have hcz : ¬ (cnt : Int) < 0 := by omega
  clear hb hW0 hf hcan hi0 hz0 hz1 hz2 hp hcell hne
  go_enter Try.func16, Try.ntmps16
  go_wp2_with (go_at_call 17; rw [← HW0.out]; refine (CF.out _ _ (HA.out.on HX.out.below)).mono ?_; rintro e w1 ⟨rfl, hb1⟩; refine Hid.out ?_)
  refine hid ?_
  have HX1 := hid (HX.out.on hb1)
  obtain ⟨k0, k1⟩ := var_cells HX1.out.v
  clear hb1
  go_wp2_with (go_at_call 37; refine (CC.out _ _ _ (HA.out.on HX1.out.below) (HWB.out.on HX1.out.below)).mono ?_; rintro e w2 ⟨rfl, hb2⟩; refine Hid.out ?_)
  refine hid ?_
  have HX2 := hid (HX1.out.on hb2)
  have HC2 : Hid (∀ j u, (ints l)[j]? = some u → w2.cell? ⟨g0, o0 + j, none⟩ = some u) := hid (fun j u hj => by
    have hjl : j < l.length := by have := (List.getElem?_eq_some_iff.1 hj).1; rwa [ints_len] at this
    rw [HX2.out.below.cell (p := ⟨g0, o0 + j, none⟩) hg0, HCELL.out j hjl]
    rw [ints_at l j hjl] at hj
    exact hj)
  clear hb2 k0 k1
  obtain ⟨k0, k1⟩ := var_cells HX2.out.v
  go_wp2_with (go_at_call 20; refine (CL.out _ _ _ _ HC2.out).mono ?_; rintro e w3 ⟨v3, rfl, ho3, hv3, hb3⟩; refine Hid.out ?_)
  refine hid ?_
  obtain ⟨g, cap, rfl, hg⟩ : ∃ g cap, v3 = .slice (some ⟨g, 0, none⟩) l.length cap ∧ w2.heap.size ≤ g := by
    rcases ho3.2 with ⟨h, _⟩ | ⟨g, cap, cur, h, h2, _⟩
    · exact absurd h hv3
    · exact ⟨g, cap, h, h2⟩
  have hgl := (ho3.lt g rfl).2
  have HO3 := hid ho3
  have HK3 := hid hb3
  have HX3 := hid (HX2.out.on hb3)
  have HP4 : Hid (Pow w2 g l.length cap w3.heap.size cnt l ((w3.alloc (.cells #[.slice (some ⟨g, 0, none⟩) l.length cap] 24)).alloc (.cells #[.int .i64 cnt] 2))) := hid
    ⟨heap_two_old _ _, heap_two_new _ _, own_below ho3 (two_boxes _ _ _ _ _), hb3.trans ((two_boxes _ _ _ _ _).mono hb3.size), ⟨hg, hgl, by rw [size_two]; omega⟩, rfl⟩
  clear ho3 hv3 hb3 k0 k1
  go_wp2_with (first | (go_at_call 39; refine (powered_calls _ _ _ _ _).mono ?_; rintro e w4 ⟨rfl, rfl⟩) | (go_at_call 38; refine (until_calls w2 g l.length cap w3.heap.size cnt hcn l n F HIN.out _ _ HP4.out (HWB.out.on HX2.out.below)).mono ?_; rintro e w5 ⟨rfl, hp5⟩; refine Hid.out ?_))
  refine hid ?_
  obtain ⟨k', hp5⟩ := hp5
  have HX5 := hid (HX2.out.on hp5.below)
  have HO5 := hid hp5.row
  have HL5 := hid hp5.len
  have hz2 := HX2.out.size
  have hzw := HX5.out.size
  have hwg := hp5.ord.1
  obtain ⟨k0, k1⟩ := var_cells HX5.out.v
  obtain ⟨k2, k3⟩ := var_cells HX5.out.z
  have f2 := var_thaw HX5.out.z 0
  have f3 := var_thaw HX5.out.z 1
  clear hp5
  go_wp2
  refine bodyPost_ret (v := .tuple #[.agg #[.int .i64 s, .slice (some ⟨g, 0, none⟩) l.length cap], .bool true]) (by simp [results, Try.results16, go_sem, k2, k3]) rfl ⟨_, rfl, HX5.out.stays _ _, ?_⟩
  have h6 := ownsRow_setCell_below (ownsRow_setCell_below HO5.out (a := ⟨w.heap.size + 1, 0, none⟩) (by show w.heap.size + 1 < _; omega) (.int .i64 s)) (a := ⟨w.heap.size + 1, 1, none⟩) (by show w.heap.size + 1 < _; omega) (.slice (some ⟨g, 0, none⟩) l.length cap)
  rw [HL5.out]
  exact own_raise h6 (by omega)

/-- The program's NvApply, whatever it is given. -/
theorem apply_impl (s : Int) (l : List Int) (hl : l.length ≤ 1048576) (n : Nat) (F : List Int) (cnt : Int) (hcn : cnt ≤ 9223372036854775807) (a b : Value) (w : World) (ha : RowIn w a l) (hb : WRow w b n F) :
    Calls Try.prog 16 #[.agg #[.int .i64 s, a], b, .int .i64 cnt] w (ApplyPost s l n F cnt w) := by
  unfold ApplyPost applyOut
  by_cases h : applyB s l n F cnt = true
  · rw [if_pos h]
    unfold applyB at h
    simp only [Bool.and_eq_true, Bool.not_eq_true', decide_eq_false_iff_not] at h
    obtain ⟨k, rfl⟩ := Int.eq_ofNat_of_zero_le (show 0 ≤ cnt by omega)
    rw [Int.toNat_natCast]
    exact apply_yes s l hl n F k hcn h.1.1 h.2 a b w ha hb
  · rw [if_neg h]
    exact (apply_no s l hl n F cnt (by simpa using h) a b w ha hb).mono fun e w' ⟨he, hb⟩ => ⟨_, he, hb, World.ownsRow_nil _ _ _ _⟩
end Go.Proofs.Ytknipcnlaaapoaa
