/- MeasureOf, the specification's and the program's: both answer the same, whatever they are given. -/
import Derived.Test.YtgmgffbfpbkfmaaGreatDoorInAny
import Derived.Test.YtgmgffbfpbkfmaaGreatDoorMakeImpl
import Derived.Test.YtgmgffbfpbkfmaaGreatDoorNumOne
import Derived.Test.YtgmgffbfpbkfmaaGreatDoorTextLit
namespace Go.Proofs.YtgmgffbfpbkfmaaGreatDoor
open Go.RowKit
open Go.Lib (hid)

theorem kind_one {d : Nat} {x : List UInt8} : (kindS d x).1 = 1 ↔ nameB x = true := by
  have hb : ∀ f, (brk f x).1 ≠ 1 := by
    intro f h
    have := brk_some (f := f) (l := x) (k := (brk f x).1) (ps := (brk f x).2) rfl (by omega)
    omega
  constructor
  · intro h
    cases d with
    | zero =>
      unfold kindS at h
      split at h
      · assumption
      · split at h <;> cases h
    | succ d =>
      unfold kindS at h
      split at h
      · assumption
      · split at h
        · cases h
        · exact absurd h (hb _)
  · intro h
    cases d with
    | zero => simp [kindS, h]
    | succ d => simp [kindS, h]

theorem name_size {x : ByteArray} (h : nameB x.data.toList = true) : x.size ≤ 12 := by
  have hsz : x.data.toList.length = x.size := by simp
  generalize x.data.toList = L at *
  unfold nameB at h
  cases L with
  | nil => cases h
  | cons c r => simp at h hsz; omega

theorem name_node (x : ByteArray) : nameB x.data.toList = decide ((nodeOf x).1 = 1) := by
  rw [Bool.eq_iff_iff, decide_eq_true_iff]
  unfold nodeOf
  by_cases h4 : x.size ≤ 4000
  · rw [if_pos h4]; exact kind_one.symm
  · rw [if_neg h4]
    refine ⟨fun h => ?_, fun h => by cases h⟩
    have := name_size h
    omega

/-- Is it a right image. -/
def imgB (name : List UInt8) (ver : Int) : Bool := nameB name && decide (0 ≤ ver ∧ ver ≤ 1000000000)

theorem image_spec (name : ByteArray) (ver : Int) (w : World) :
    Calls Tryz.prog 49 #[.agg #[.string name, .int .i64 ver]] w fun e w' => e = .returned (.bool (imgB name.data.toList ver)) ∧ Below w.heap.size w w' := by
  have HI : Hid (imgB name.data.toList ver = (nameB name.data.toList && decide (0 ≤ ver ∧ ver ≤ 1000000000))) := hid rfl
  have CN := hid (fun W => sname_calls name W)
  have CI := hid (fun W => in_any ver 0 1000000000 W)
  generalize imgB name.data.toList ver = r at *
  generalize decide (0 ≤ ver ∧ ver ≤ 1000000000) = c at *
  generalize nameB name.data.toList = b at *
  cases b with
  | false =>
    go_enter Tryz.func49, Tryz.ntmps49
    go_wp2_with (go_at_call 46; refine (CN.out _).mono ?_; rintro e w1 ⟨rfl, e1⟩; rw [e1]; clear e1 w1)
    go_ret
    exact ⟨by rw [HI.out]; rfl, (Below.refl _ _).alloc (Nat.le_refl _) _⟩
  | true =>
    go_enter Tryz.func49, Tryz.ntmps49
    go_wp2_with (first | (go_at_call 46; refine (CN.out _).mono ?_; rintro e w1 ⟨rfl, e1⟩; rw [e1]; clear e1 w1) | (go_at_call 87; refine (CI.out _).mono ?_; rintro e w1 ⟨rfl, e1⟩; rw [e1]; clear e1 w1))
    go_ret
    exact ⟨by rw [HI.out]; rfl, (Below.refl _ _).alloc (Nat.le_refl _) _⟩

set_option maxRecDepth 20000 in
theorem image_impl (name : ByteArray) (ver : Int) (w : World) (hT : Tab w) (hG : 0 < w.heap.size) (hP : Lib.TabIs Tryz.prog w "internal/strconv.uint64pow10" .u64 Lib.pow10Tab) :
    Calls Tryz.prog 117 #[.agg #[.string name, .int .i64 ver]] w fun e w' => e = .returned (.bool (imgB name.data.toList ver)) ∧ Below w.heap.size w w' := by
  have HTAB := hid hT
  have HI : Hid (imgB name.data.toList ver = (nameB name.data.toList && decide (0 ≤ ver ∧ ver ≤ 1000000000))) := hid rfl
  obtain ⟨W0, hW0⟩ : ∃ W0, W0 = w.alloc (.cells #[.string name, .int .i64 ver] 66) := ⟨_, rfl⟩
  have hb0 : Below w.heap.size w W0 := by rw [hW0]; exact (Below.refl _ _).alloc (Nat.le_refl _) _
  have HB0 := hid hb0
  have HP0 := hid (Num.tab_stays hb0 hP)
  have hz0 : w.heap.size < W0.heap.size := by rw [hW0]; simp
  have HC0 : Hid (W0.heap[w.heap.size]? = some (.cells #[.string name, .int .i64 ver] 66)) := hid (by rw [hW0]; exact heap_alloc_new _ _)
  have HW0 := hid hW0
  have CK := hid (fun W (hb : Below w.heap.size w W) => kind_impl name W (tab_on hT hG hb) (Nat.lt_of_lt_of_le hG hb.size))
  have HNN := hid (name_node name)
  clear hT hP hW0 hb0
  generalize imgB name.data.toList ver = r at *
  by_cases hv : 0 ≤ ver ∧ ver ≤ 1000000000
  · obtain ⟨k, rfl⟩ := Int.eq_ofNat_of_zero_le hv.1
    have hk : k ≤ 1000000000 := by omega
    have HD := hid (decide_eq_true hv)
    clear hv
    generalize decide (0 ≤ (k : Int) ∧ (k : Int) ≤ 1000000000) = c at *
    generalize (nodeOf name).1 = kk at *
    go_enter Tryz.func117, Tryz.ntmps117
    go_wp2_with (go_at_call 167; rw [← HW0.out]; refine (Num.implNumber_yes k hk _ HP0.out).mono ?_; rintro e w1 ⟨rfl, hb1⟩; refine Hid.out ?_)
    refine hid ?_
    have HB1 := hid (HB0.out.trans (hb1.mono HB0.out.size))
    have HC1 := hid ((hb1.block _ hz0).trans HC0.out)
    have k0 := (cell_of_row _ _ 0 _ _ _ HC1.out).trans rfl
    have k1 := (cell_of_row _ _ 1 _ _ _ HC1.out).trans rfl
    clear hb1
    go_wp2_with (go_at_call 54; refine (CK.out _ HB1.out).mono ?_; rintro e w2 ⟨rfl, hb2⟩; refine Hid.out ?_)
    refine hid ?_
    have HB2 := hid (HB1.out.trans (hb2.mono HB1.out.size))
    clear hb2
    go_wp2
    go_ret
    refine ⟨?_, HB2.out⟩
    show Ending.returned (.bool ((kk : Int) == 1)) = Ending.returned (.bool r)
    rw [HI.out, HD.out, HNN.out, Bool.and_true]
    congr 2
    rw [Bool.eq_iff_iff, decide_eq_true_iff]
    simp
    omega
  · have HD := hid (decide_eq_false hv)
    generalize decide (0 ≤ ver ∧ ver ≤ 1000000000) = c at *
    go_enter Tryz.func117, Tryz.ntmps117
    go_wp2_with (go_at_call 167; rw [← HW0.out]; refine (Num.implNumber_no _ hv _).mono ?_; rintro e w1 ⟨rfl, e1⟩; rw [e1]; clear e1 w1)
    all_goals
      go_ret
      refine ⟨?_, HB0.out⟩
      show Ending.returned (.bool false) = Ending.returned (.bool r)
      rw [HI.out, HD.out, Bool.and_false]

/-- What is measured. -/
def measOf (l : Nat) (name : List UInt8) (v : Nat) : List (List UInt8) := [Num.nameOf l, name, Num.nameOf v]

/-- Is there a measure, and its text. -/
def measOut (layer : Int) (name : List UInt8) (ver : Int) : Bool × List UInt8 :=
  if 0 ≤ layer ∧ layer ≤ 15 ∧ imgB name ver = true then (madeB 4 (measOf layer.toNat name ver.toNat), tmWith 4 (measOf layer.toNat name ver.toNat)) else (false, [])

theorem img_num {name : List UInt8} {ver : Int} (h : imgB name ver = true) : ∃ k : Nat, ver = k ∧ k ≤ 1000000000 := by
  unfold imgB at h
  rw [Bool.and_eq_true, decide_eq_true_iff] at h
  obtain ⟨k, hk⟩ := Int.eq_ofNat_of_zero_le h.2.1
  exact ⟨k, hk, by omega⟩

set_option maxRecDepth 20000 in
set_option maxHeartbeats 2000000 in
theorem meas_spec (layer : Int) (name : ByteArray) (ver : Int) (w : World) :
    Calls Tryz.prog 84 #[.int .i64 layer, .agg #[.string name, .int .i64 ver]] w (MadeOut w (measOut layer name.data.toList ver).1 (measOut layer name.data.toList ver).2) := by
  obtain ⟨W0, hW0⟩ : ∃ W0, W0 = w.alloc (.cells #[.string name, .int .i64 ver] 66) := ⟨_, rfl⟩
  have hb0 : Below w.heap.size w W0 := by rw [hW0]; exact (Below.refl _ _).alloc (Nat.le_refl _) _
  have HB0 := hid hb0
  have hz0 : w.heap.size < W0.heap.size := by rw [hW0]; simp
  have HC0 : Hid (W0.heap[w.heap.size]? = some (.cells #[.string name, .int .i64 ver] 66)) := hid (by rw [hW0]; exact heap_alloc_new _ _)
  have HW0 := hid hW0
  have CL := hid (fun W => in_any layer 0 15 W)
  have CI := hid (fun W => image_spec name ver W)
  clear hW0 hb0
  by_cases hl : 0 ≤ layer ∧ layer ≤ 15
  · have HD := hid (decide_eq_true hl)
    have HL := hid hl
    obtain ⟨l, rfl⟩ := Int.eq_ofNat_of_zero_le hl.1
    have hl2 : l ≤ 1000000000 := by omega
    clear hl
    cases him : imgB name.data.toList ver with
    | false =>
      have HO : Hid (measOut l name.data.toList ver = (false, [])) := hid (by unfold measOut; rw [him, if_neg (by simp)])
      have HI := hid him
      clear him
      rw [HO.out]
      go_enter Tryz.func84, Tryz.ntmps84
      go_wp2_with (go_at_call 87; rw [← HW0.out]; refine (CL.out _).mono ?_; rintro e w1 ⟨rfl, e1⟩; rw [e1, HD.out]; clear e1 w1; refine Hid.out ?_)
      refine hid ?_
      have k0 := (cell_of_row _ _ 0 _ _ _ HC0.out).trans rfl
      have k1 := (cell_of_row _ _ 1 _ _ _ HC0.out).trans rfl
      go_wp2_with (go_at_call 49; refine (CI.out _).mono ?_; rintro e w2 ⟨rfl, hb2⟩; rw [HI.out]; refine Hid.out ?_)
      refine hid ?_
      have HB2 := hid (HB0.out.trans (hb2.mono HB0.out.size))
      clear hb2
      go_wp2
      go_ret2
      exact ⟨rfl, HB2.out⟩
    | true =>
      obtain ⟨k, rfl, hk⟩ := img_num him
      have HO : Hid (measOut l name.data.toList k = (madeB 4 (measOf l name.data.toList k), tmWith 4 (measOf l name.data.toList k))) := hid (by unfold measOut; rw [if_pos ⟨HL.out.1, HL.out.2, him⟩, Int.toNat_natCast, Int.toNat_natCast])
      have HI := hid him
      clear him
      rw [HO.out]
      dsimp only
      obtain ⟨nl, hnl⟩ : ∃ nl : ByteArray, (⟨(Num.nameOf l).toArray⟩ : ByteArray) = nl := ⟨_, rfl⟩
      obtain ⟨nv, hnv⟩ : ∃ nv : ByteArray, (⟨(Num.nameOf k).toArray⟩ : ByteArray) = nv := ⟨_, rfl⟩
      have C1 := hid (fun (W : World) => Num.specNumber_yes l hl2 W)
      have C2 := hid (fun (W : World) => Num.specNumber_yes k hk W)
      rw [hnl] at C1
      rw [hnv] at C2
      have M1 : Hid (∀ W : World, Calls Tryz.prog 144 #[.int .i64 4, .slice (some ⟨W.heap.size, 0, none⟩) 3 3] (W.alloc (.cells #[.string nl, .string name, .string nv] 9)) (MadeOut (W.alloc (.cells #[.string nl, .string name, .string nv] 9)) (madeB 4 (measOf l name.data.toList k)) (tmWith 4 (measOf l name.data.toList k)))) := hid (fun W => (make_spec 4 (measOf l name.data.toList k) _ _ (lit_texts W #[.string nl, .string name, .string nv] 9 (measOf l name.data.toList k) (fun j hj => by
        match j, hj with
        | 0, _ => rw [← hnl]; rfl
        | 1, _ => exact congrArg (fun b => some (Value.string b)) (back_bytes name).symm
        | 2, _ => rw [← hnv]; rfl))))
      unfold MadeOut at M1 ⊢
      clear hnl hnv
      generalize madeB 4 (measOf l name.data.toList k) = b at *
      generalize tmWith 4 (measOf l name.data.toList k) = t at *
      obtain ⟨y, hy⟩ : ∃ y : ByteArray, (if b = true then bytesOf t else ⟨#[]⟩) = y := ⟨_, rfl⟩
      rw [hy] at M1 ⊢
      clear hy
      go_enter Tryz.func84, Tryz.ntmps84
      go_wp2_with (go_at_call 87; rw [← HW0.out]; refine (CL.out _).mono ?_; rintro e w1 ⟨rfl, e1⟩; rw [e1, HD.out]; clear e1 w1; refine Hid.out ?_)
      refine hid ?_
      have k0 := (cell_of_row _ _ 0 _ _ _ HC0.out).trans rfl
      have k1 := (cell_of_row _ _ 1 _ _ _ HC0.out).trans rfl
      go_wp2_with (go_at_call 49; refine (CI.out _).mono ?_; rintro e w2 ⟨rfl, hb2⟩; rw [HI.out]; refine Hid.out ?_)
      refine hid ?_
      have hz2 := hb2.size
      have HB2 := hid (HB0.out.trans (hb2.mono HB0.out.size))
      have HC2 := hid ((hb2.block _ hz0).trans HC0.out)
      clear hb2 k0 k1
      have k0 := (cell_of_row _ _ 0 _ _ _ HC2.out).trans rfl
      have k1 := (cell_of_row _ _ 1 _ _ _ HC2.out).trans rfl
      go_wp2_with (go_at_call 143; refine (C1.out _).mono ?_; rintro e w3 ⟨rfl, hb3⟩; refine Hid.out ?_)
      refine hid ?_
      have hz3 := hb3.size
      have HB3 := hid (HB2.out.trans (hb3.mono HB2.out.size))
      have HC3 := hid ((hb3.block _ (by omega)).trans HC2.out)
      clear hb3 k0 k1
      have k0 := (cell_of_row _ _ 0 _ _ _ HC3.out).trans rfl
      have k1 := (cell_of_row _ _ 1 _ _ _ HC3.out).trans rfl
      go_wp2_with (go_at_call 143; refine (C2.out _).mono ?_; rintro e w4 ⟨rfl, hb4⟩; refine Hid.out ?_)
      refine hid ?_
      have hz4 := hb4.size
      have HB4 := hid (HB3.out.trans (hb4.mono HB3.out.size))
      have HC4 := hid ((hb4.block _ (by omega)).trans HC3.out)
      clear hb4 k0 k1
      have k0 := (cell_of_row _ _ 0 _ _ _ HC4.out).trans rfl
      have k1 := (cell_of_row _ _ 1 _ _ _ HC4.out).trans rfl
      have hz5 : w.heap.size < w4.heap.size := by omega
      go_wp2_with (go_at_call 144; refine (M1.out _).mono ?_; rintro e w5 ⟨rfl, hb5⟩; refine Hid.out ?_)
      refine hid ?_
      have HB5 := hid (HB4.out.trans (((Below.refl _ _).alloc (Nat.le_refl _) _).trans (hb5.mono (by simp)) |>.mono HB4.out.size))
      clear hb5
      go_wp2
      go_ret2
      exact ⟨rfl, HB5.out⟩
  · have HD := hid (decide_eq_false hl)
    have HO : Hid (measOut layer name.data.toList ver = (false, [])) := hid (by unfold measOut; rw [if_neg (fun h => hl ⟨h.1, h.2.1⟩)])
    clear hl
    rw [HO.out]
    go_enter Tryz.func84, Tryz.ntmps84
    go_wp2_with (go_at_call 87; rw [← HW0.out]; refine (CL.out _).mono ?_; rintro e w1 ⟨rfl, e1⟩; rw [e1, HD.out]; clear e1 w1; refine Hid.out ?_)
    refine hid ?_
    go_wp2
    all_goals
      go_ret2
      exact ⟨rfl, HB0.out⟩

theorem layer_calls (layer : Int) (w : World) :
    Calls Tryz.prog 146 #[.int .i64 layer] w fun e w' => e = .returned (.bool (decide (0 ≤ layer ∧ layer ≤ 15))) ∧ w' = w := by
  by_cases h0 : 0 ≤ layer
  · by_cases h1 : layer ≤ 15
    · go_enter Tryz.func146, Tryz.ntmps146
      go_wp2
      go_ret
      exact ⟨by simp [h0, h1], rfl⟩
    · go_enter Tryz.func146, Tryz.ntmps146
      go_wp2
      go_ret
      exact ⟨by simp [h1], rfl⟩
  · go_enter Tryz.func146, Tryz.ntmps146
    go_wp2
    go_ret
    exact ⟨by simp; omega, rfl⟩

set_option maxRecDepth 20000 in
set_option maxHeartbeats 2000000 in
theorem meas_impl (layer : Int) (name : ByteArray) (ver : Int) (w : World) (hT : Tab w) (hG : 0 < w.heap.size) (hP : Lib.TabIs Tryz.prog w "internal/strconv.uint64pow10" .u64 Lib.pow10Tab) :
    Calls Tryz.prog 147 #[.int .i64 layer, .agg #[.string name, .int .i64 ver]] w (MadeOut w (measOut layer name.data.toList ver).1 (measOut layer name.data.toList ver).2) := by
  obtain ⟨W0, hW0⟩ : ∃ W0, W0 = w.alloc (.cells #[.string name, .int .i64 ver] 66) := ⟨_, rfl⟩
  have hb0 : Below w.heap.size w W0 := by rw [hW0]; exact (Below.refl _ _).alloc (Nat.le_refl _) _
  have HB0 := hid hb0
  have hz0 : w.heap.size < W0.heap.size := by rw [hW0]; simp
  have HC0 : Hid (W0.heap[w.heap.size]? = some (.cells #[.string name, .int .i64 ver] 66)) := hid (by rw [hW0]; exact heap_alloc_new _ _)
  have HW0 := hid hW0
  have HT := hid (fun W (hb : Below w.heap.size w W) => tab_on hT hG hb)
  have HP := hid (fun W (hb : Below w.heap.size w W) => Num.tab_stays hb hP)
  have HGG := hid (fun W (hb : Below w.heap.size w W) => Nat.lt_of_lt_of_le hG hb.size)
  have CL := hid (fun W => layer_calls layer W)
  have CI := hid (fun W (hb : Below w.heap.size w W) => image_impl name ver W (HT.out W hb) (HGG.out W hb) (HP.out W hb))
  clear hW0 hb0 hT hP hG
  by_cases hl : 0 ≤ layer ∧ layer ≤ 15
  · have HD := hid (decide_eq_true hl)
    have HL := hid hl
    obtain ⟨l, rfl⟩ := Int.eq_ofNat_of_zero_le hl.1
    have hl2 : l ≤ 1000000000 := by omega
    clear hl
    cases him : imgB name.data.toList ver with
    | false =>
      have HO : Hid (measOut l name.data.toList ver = (false, [])) := hid (by unfold measOut; rw [him, if_neg (by simp)])
      have HI := hid him
      clear him
      rw [HO.out]
      go_enter Tryz.func147, Tryz.ntmps147
      go_wp2_with (go_at_call 146; rw [← HW0.out]; refine (CL.out _).mono ?_; rintro e w1 ⟨rfl, e1⟩; rw [e1, HD.out]; clear e1 w1; refine Hid.out ?_)
      refine hid ?_
      have k0 := (cell_of_row _ _ 0 _ _ _ HC0.out).trans rfl
      have k1 := (cell_of_row _ _ 1 _ _ _ HC0.out).trans rfl
      go_wp2_with (go_at_call 117; refine (CI.out _ HB0.out).mono ?_; rintro e w2 ⟨rfl, hb2⟩; rw [HI.out]; refine Hid.out ?_)
      refine hid ?_
      have HB2 := hid (HB0.out.trans (hb2.mono HB0.out.size))
      clear hb2
      go_wp2
      go_ret2
      exact ⟨rfl, HB2.out⟩
    | true =>
      obtain ⟨k, rfl, hk⟩ := img_num him
      have HO : Hid (measOut l name.data.toList k = (madeB 4 (measOf l name.data.toList k), tmWith 4 (measOf l name.data.toList k))) := hid (by unfold measOut; rw [if_pos ⟨HL.out.1, HL.out.2, him⟩, Int.toNat_natCast, Int.toNat_natCast])
      have HI := hid him
      clear him
      rw [HO.out]
      dsimp only
      obtain ⟨nl, hnl⟩ : ∃ nl : ByteArray, (⟨(Num.nameOf l).toArray⟩ : ByteArray) = nl := ⟨_, rfl⟩
      obtain ⟨nv, hnv⟩ : ∃ nv : ByteArray, (⟨(Num.nameOf k).toArray⟩ : ByteArray) = nv := ⟨_, rfl⟩
      have C1 := hid (fun (W : World) (hp : Lib.TabIs Tryz.prog W "internal/strconv.uint64pow10" .u64 Lib.pow10Tab) => Num.implNumber_yes l hl2 W hp)
      have C2 := hid (fun (W : World) (hp : Lib.TabIs Tryz.prog W "internal/strconv.uint64pow10" .u64 Lib.pow10Tab) => Num.implNumber_yes k hk W hp)
      rw [hnl] at C1
      rw [hnv] at C2
      have M1 : Hid (∀ W : World, Below w.heap.size w W → Calls Tryz.prog 169 #[.int .i64 4, .slice (some ⟨W.heap.size, 0, none⟩) 3 3] (W.alloc (.cells #[.string nl, .string name, .string nv] 9)) (MadeOut (W.alloc (.cells #[.string nl, .string name, .string nv] 9)) (madeB 4 (measOf l name.data.toList k)) (tmWith 4 (measOf l name.data.toList k)))) := hid (fun W (hb : Below w.heap.size w W) => (make_impl 4 (measOf l name.data.toList k) (some ⟨W.heap.size, 0, none⟩) 3 (Nat.le_refl _) _ (lit_texts W #[.string nl, .string name, .string nv] 9 (measOf l name.data.toList k) (fun j hj => by
        match j, hj with
        | 0, _ => rw [← hnl]; rfl
        | 1, _ => exact congrArg (fun b => some (Value.string b)) (back_bytes name).symm
        | 2, _ => rw [← hnv]; rfl)) (HT.out _ (hb.alloc hb.size _)) (HGG.out _ (hb.alloc hb.size _))))
      unfold MadeOut at M1 ⊢
      clear hnl hnv
      generalize madeB 4 (measOf l name.data.toList k) = b at *
      generalize tmWith 4 (measOf l name.data.toList k) = t at *
      obtain ⟨y, hy⟩ : ∃ y : ByteArray, (if b = true then bytesOf t else ⟨#[]⟩) = y := ⟨_, rfl⟩
      rw [hy] at M1 ⊢
      clear hy
      go_enter Tryz.func147, Tryz.ntmps147
      go_wp2_with (go_at_call 146; rw [← HW0.out]; refine (CL.out _).mono ?_; rintro e w1 ⟨rfl, e1⟩; rw [e1, HD.out]; clear e1 w1; refine Hid.out ?_)
      refine hid ?_
      have k0 := (cell_of_row _ _ 0 _ _ _ HC0.out).trans rfl
      have k1 := (cell_of_row _ _ 1 _ _ _ HC0.out).trans rfl
      go_wp2_with (go_at_call 117; refine (CI.out _ HB0.out).mono ?_; rintro e w2 ⟨rfl, hb2⟩; rw [HI.out]; refine Hid.out ?_)
      refine hid ?_
      have hz2 := hb2.size
      have HB2 := hid (HB0.out.trans (hb2.mono HB0.out.size))
      have HC2 := hid ((hb2.block _ hz0).trans HC0.out)
      clear hb2 k0 k1
      have k0 := (cell_of_row _ _ 0 _ _ _ HC2.out).trans rfl
      have k1 := (cell_of_row _ _ 1 _ _ _ HC2.out).trans rfl
      go_wp2_with (go_at_call 167; refine (C1.out _ (HP.out _ HB2.out)).mono ?_; rintro e w3 ⟨rfl, hb3⟩; refine Hid.out ?_)
      refine hid ?_
      have hz3 := hb3.size
      have HB3 := hid (HB2.out.trans (hb3.mono HB2.out.size))
      have HC3 := hid ((hb3.block _ (by omega)).trans HC2.out)
      clear hb3 k0 k1
      have k0 := (cell_of_row _ _ 0 _ _ _ HC3.out).trans rfl
      have k1 := (cell_of_row _ _ 1 _ _ _ HC3.out).trans rfl
      go_wp2_with (go_at_call 167; refine (C2.out _ (HP.out _ HB3.out)).mono ?_; rintro e w4 ⟨rfl, hb4⟩; refine Hid.out ?_)
      refine hid ?_
      have hz4 := hb4.size
      have HB4 := hid (HB3.out.trans (hb4.mono HB3.out.size))
      have HC4 := hid ((hb4.block _ (by omega)).trans HC3.out)
      clear hb4 k0 k1
      have k0 := (cell_of_row _ _ 0 _ _ _ HC4.out).trans rfl
      have k1 := (cell_of_row _ _ 1 _ _ _ HC4.out).trans rfl
      have hz5 : w.heap.size < w4.heap.size := by omega
      go_wp2_with (go_at_call 169; refine (M1.out _ HB4.out).mono ?_; rintro e w5 ⟨rfl, hb5⟩; refine Hid.out ?_)
      refine hid ?_
      have HB5 := hid (HB4.out.trans (((Below.refl _ _).alloc (Nat.le_refl _) _).trans (hb5.mono (by simp)) |>.mono HB4.out.size))
      clear hb5
      go_wp2
      go_ret2
      exact ⟨rfl, HB5.out⟩
  · have HD := hid (decide_eq_false hl)
    have HO : Hid (measOut layer name.data.toList ver = (false, [])) := hid (by unfold measOut; rw [if_neg (fun h => hl ⟨h.1, h.2.1⟩)])
    clear hl
    rw [HO.out]
    go_enter Tryz.func147, Tryz.ntmps147
    go_wp2_with (go_at_call 146; rw [← HW0.out]; refine (CL.out _).mono ?_; rintro e w1 ⟨rfl, e1⟩; rw [e1, HD.out]; clear e1 w1; refine Hid.out ?_)
    refine hid ?_
    go_wp2
    all_goals
      go_ret2
      exact ⟨rfl, HB0.out⟩
end Go.Proofs.YtgmgffbfpbkfmaaGreatDoor
