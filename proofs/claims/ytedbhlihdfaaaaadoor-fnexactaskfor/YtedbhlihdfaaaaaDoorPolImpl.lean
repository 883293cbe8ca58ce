/- A row that is right, its key, and a rising list of terms: the program's. -/
import Derived.Test.YtedbhlihdfaaaaaDoorPolPlain
namespace Go.Proofs.YtedbhlihdfaaaaaDoor
open Go.RowKit
open Go.Lib (hid)

theorem pname_node (x : ByteArray) : nameB x.data.toList = decide ((nodeOf x).1 = 1) := name_node x

theorem less_yes {x y : List UInt8} (h : x < y) : Op.bytesLess (bytesOf x).toList (bytesOf y).toList = true := by
  rw [ByteArray.toList_eq, ByteArray.toList_eq, bytesLess_eq]
  exact decide_eq_true h

theorem less_no {x y : List UInt8} (h : ¬ x < y) : Op.bytesLess (bytesOf x).toList (bytesOf y).toList = false := by
  rw [ByteArray.toList_eq, ByteArray.toList_eq, bytesLess_eq]
  exact decide_eq_false h

set_option maxRecDepth 20000 in
set_option maxHeartbeats 2000000 in
theorem right_calls (x : Int) (name : ByteArray) (y : Int) (w : World) (hT : Tab w) (hG : 0 < w.heap.size) (hP : Lib.TabIs Tryd.prog w "internal/strconv.uint64pow10" .u64 Lib.pow10Tab) :
    Calls Tryd.prog 245 #[.agg #[.int .i64 x, .string name, .int .i64 y]] w fun e w' => e = .returned (.bool (refB ⟨x, name, y⟩)) ∧ Below w.heap.size w w' := by
  have HR : Hid (refB ⟨x, name, y⟩ = (decide (0 ≤ x ∧ x ≤ 15) && (decide ((nodeOf name).1 = 1) && decide (0 ≤ y ∧ y ≤ 1000000000)))) := hid (by unfold refB; rw [pname_node])
  have HT := hid hT
  obtain ⟨W0, hW0⟩ : ∃ W0, W0 = w.alloc (.cells #[.int .i64 x, .string name, .int .i64 y] 161) := ⟨_, rfl⟩
  have hb0 : Below w.heap.size w W0 := by rw [hW0]; exact (Below.refl _ _).alloc (Nat.le_refl _) _
  have HB0 := hid hb0
  have HV0 : Hid (W0.heap[w.heap.size]? = some (.cells #[.int .i64 x, .string name, .int .i64 y] 161)) := hid (by rw [hW0]; exact heap_alloc_new _ _)
  have hz0 : w.heap.size < W0.heap.size := by rw [hW0]; simp
  have HW0 := hid hW0
  have HP0 := hid (Num.tab_stays hb0 hP)
  have CL := hid (fun W => layer_calls x W)
  have CK := hid (fun W hT hG => kind_impl name W hT hG)
  generalize refB ⟨x, name, y⟩ = r at *
  generalize (nodeOf name).1 = kk at *
  clear hW0 hT hP hb0
  by_cases h3 : 0 ≤ y ∧ y ≤ 1000000000
  · have h3' := h3
    obtain ⟨k, rfl⟩ := Int.eq_ofNat_of_zero_le h3.1
    have hk : k ≤ 1000000000 := by omega
    rw [decide_eq_true h3', Bool.and_true] at HR
    have CN := hid (fun (W : World) (hp : Lib.TabIs Tryd.prog W "internal/strconv.uint64pow10" .u64 Lib.pow10Tab) => Num.implNumber_yes k hk W hp)
    generalize (⟨(Num.nameOf k).toArray⟩ : ByteArray) = nm at *
    obtain ⟨k0, k1, k2⟩ := three_refs HV0.out
    clear h3 h3'
    cases h1 : decide (0 ≤ x ∧ x ≤ 15) with
    | false =>
      rw [h1] at HR CL
      clear h1
      go_enter Tryd.func245, Tryd.ntmps245
      go_wp2_with (go_at_call 193; rw [← HW0.out]; refine (CN.out _ HP0.out).mono ?_; rintro e w1 ⟨rfl, hb1⟩; refine Hid.out ?_)
      refine hid ?_
      have HB1 := hid (HB0.out.trans (hb1.mono HB0.out.size))
      have HV1 := hid ((hb1.block _ hz0).trans HV0.out)
      have T1 := hid (tab_on HT.out hG HB1.out)
      have g1 := Nat.lt_of_lt_of_le hG HB1.out.size
      clear hb1 k0 k1 k2
      obtain ⟨k0, k1, k2⟩ := three_refs HV1.out
      go_wp2_with (go_at_call 277; refine (CL.out _).mono ?_; rintro e wq ⟨rfl, eq⟩; rw [eq]; clear eq wq; refine Hid.out ?_)
      refine hid ?_
      go_wp2
      go_ret
      exact ⟨by rw [HR.out]; rfl, HB1.out⟩
    | true =>
      rw [h1, Bool.true_and] at HR
      rw [h1] at CL
      clear h1
      by_cases h2 : kk = 1
      · have hb2 : ((kk : Int) == 1) = true := by rw [h2]; rfl
        rw [decide_eq_true h2] at HR
        clear h2
        go_enter Tryd.func245, Tryd.ntmps245
        go_wp2_with (go_at_call 193; rw [← HW0.out]; refine (CN.out _ HP0.out).mono ?_; rintro e w1 ⟨rfl, hb1⟩; refine Hid.out ?_)
        refine hid ?_
        have HB1 := hid (HB0.out.trans (hb1.mono HB0.out.size))
        have HV1 := hid ((hb1.block _ hz0).trans HV0.out)
        have T1 := hid (tab_on HT.out hG HB1.out)
        have g1 := Nat.lt_of_lt_of_le hG HB1.out.size
        clear hb1 k0 k1 k2
        obtain ⟨k0, k1, k2⟩ := three_refs HV1.out
        go_wp2_with (go_at_call 277; refine (CL.out _).mono ?_; rintro e wq ⟨rfl, eq⟩; rw [eq]; clear eq wq; refine Hid.out ?_)
        refine hid ?_
        go_wp2_with (go_at_call 178; refine (CK.out _ T1.out g1).mono ?_; rintro e w5 ⟨rfl, hb5⟩; refine Hid.out ?_)
        refine hid ?_
        have HB5 := hid (HB1.out.trans (hb5.mono HB1.out.size))
        clear hb5
        go_wp2
        go_ret
        exact ⟨by rw [HR.out]; rfl, HB5.out⟩
      · have hb2 : ((kk : Int) == 1) = false := by rw [beq_eq_false_iff_ne]; omega
        rw [decide_eq_false h2] at HR
        clear h2
        go_enter Tryd.func245, Tryd.ntmps245
        go_wp2_with (go_at_call 193; rw [← HW0.out]; refine (CN.out _ HP0.out).mono ?_; rintro e w1 ⟨rfl, hb1⟩; refine Hid.out ?_)
        refine hid ?_
        have HB1 := hid (HB0.out.trans (hb1.mono HB0.out.size))
        have HV1 := hid ((hb1.block _ hz0).trans HV0.out)
        have T1 := hid (tab_on HT.out hG HB1.out)
        have g1 := Nat.lt_of_lt_of_le hG HB1.out.size
        clear hb1 k0 k1 k2
        obtain ⟨k0, k1, k2⟩ := three_refs HV1.out
        go_wp2_with (go_at_call 277; refine (CL.out _).mono ?_; rintro e wq ⟨rfl, eq⟩; rw [eq]; clear eq wq; refine Hid.out ?_)
        refine hid ?_
        go_wp2_with (go_at_call 178; refine (CK.out _ T1.out g1).mono ?_; rintro e w5 ⟨rfl, hb5⟩; refine Hid.out ?_)
        refine hid ?_
        have HB5 := hid (HB1.out.trans (hb5.mono HB1.out.size))
        clear hb5
        go_wp2
        go_ret
        exact ⟨by rw [HR.out]; rfl, HB5.out⟩
  · have CN := hid (fun (W : World) => Num.implNumber_no y h3 W)
    rw [decide_eq_false h3, Bool.and_false, Bool.and_false] at HR
    obtain ⟨k0, k1, k2⟩ := three_refs HV0.out
    clear h3
    go_enter Tryd.func245, Tryd.ntmps245
    go_wp2_with (go_at_call 193; rw [← HW0.out]; refine (CN.out _).mono ?_; rintro e w1 ⟨rfl, e1⟩; rw [e1]; clear e1 w1; refine Hid.out ?_)
    refine hid ?_
    go_wp2
    go_ret
    exact ⟨by rw [HR.out]; rfl, HB0.out⟩

/-- The key of a row. -/
theorem key_calls (x : Int) (name : ByteArray) (y : Int) (w : World) :
    Calls Tryd.prog 196 #[.agg #[.int .i64 x, .string name, .int .i64 y]] w fun e w' => e = .returned (.agg #[.int .i64 x, .string name]) ∧ Below w.heap.size w w' := by
  go_enter Tryd.func196, Tryd.ntmps196
  go_wp2
  refine bodyPost_ret (v := .agg #[.int .i64 x, .string name]) (by simp [results, Tryd.results196, go_sem]) rfl ⟨rfl, ?_⟩
  first
    | exact ((Below.refl _ _).alloc (Nat.le_refl _) _).alloc (by simp) _
    | exact ((((Below.refl _ _).alloc (Nat.le_refl _) _).alloc (by simp) _).setCell (by simp) _).setCell (by simp) _

set_option maxRecDepth 20000 in
set_option maxHeartbeats 4000000 in
theorem rising_impl (ps : List (List UInt8)) (hm : ps.length ≤ 1048576) (most : Nat) (hmost : most ≤ 1048576) (b : Value) (w : World) (hb : TextsAt w b ps) (hT : Tab w) (hG : 0 < w.heap.size) :
    Calls Tryd.prog 194 #[b, .int .i64 most] w fun e w' => e = .returned (.bool (decide (ps.length ≤ most) && risB ps ps.length)) ∧ Below w.heap.size w w' := by
  have HE := hid hb
  have HT := hid (fun W (hb : Below w.heap.size w W) => tab_on hT hG hb)
  have HGG := hid (fun W (hb : Below w.heap.size w W) => Nat.lt_of_lt_of_le hG hb.size)
  obtain ⟨q, d, rfl, hrest⟩ := hb
  clear hrest hT hG
  by_cases h3 : ps.length ≤ most
  · have d3 : ¬ (ps.length : Int) > (most : Int) := by omega
    rw [decide_eq_true h3, Bool.true_and]
    generalize hr : risB ps ps.length = r
    have HR := hid hr
    clear h3 hr
    go_enter Tryd.func194, Tryd.ntmps194
    go_wp2
    go_loopw [13] (fun iv wr => ∃ i : Nat, i ≤ ps.length ∧ iv = .int .i64 i ∧ Below w.heap.size w wr ∧ risB ps i = true) (fun iv _ => ps.length - (RowKit.intOf iv).toNat)
    case atStart => exact ⟨0, Nat.zero_le _, rfl, Below.refl _ _, rfl⟩
    case round =>
      obtain ⟨i, hi, rfl, hbel, hall⟩ := hrel
      have HB := hid hbel
      have HALL := hid hall
      by_cases hlt : i < ps.length
      · have hne : ps ≠ [] := fun h => by rw [h] at hlt; cases hlt
        obtain ⟨q', d', hv, hq⟩ := HE.out
        obtain ⟨rfl, rfl⟩ : q = q' ∧ d = d' := by injection hv with h1 h2 h3; exact ⟨h1, by omega⟩
        obtain ⟨g, rfl, hk⟩ := hq hne
        have hkr := hk.on hbel
        have HKR := hid hkr
        have hgw := hkr.1
        have hc1 := hkr.2 i hlt
        rw [show (⟨ps[i].toArray⟩ : ByteArray) = bytesOf ps[i] from rfl] at hc1
        have b1 : (0 : Int) ≤ (i : Int) := by omega
        have b2 : (i : Int) < (ps.length : Int) := by omega
        have KC := hid (fun W hT hG => kind_impl (bytesOf ps[i]) W hT hG)
        have HGD : Hid (risGood ps i = (decide ((nodeOf (bytesOf ps[i])).1 ≠ 0) && decide (0 < i → ps.getD (i - 1) [] < ps[i]))) := hid (by unfold risGood; rw [txt_at hlt])
        clear hv hq hk hkr hbel hall
        generalize ps[i] = x at *
        generalize (nodeOf (bytesOf x)).1 = kk at *
        by_cases h0 : kk = 0
        · have hb0 : ((kk : Int) == 0) = true := by rw [h0]; rfl
          have HGB : Hid (risGood ps i = false) := hid (by rw [HGD.out, decide_eq_false (fun h => h h0)]; rfl)
          clear h0 HGD HKR
          generalize bytesOf x = X at *
          go_wp2_with (go_at_call 178; refine (KC.out _ (HT.out _ HB.out) (HGG.out _ HB.out)).mono ?_; rintro e w5 ⟨rfl, hb5⟩; refine Hid.out ?_)
          refine hid ?_
          have HB5 := hid (HB.out.trans (hb5.mono HB.out.size))
          clear hb5
          go_wp2
          go_ret
          exact ⟨by rw [← HR.out, show risB ps ps.length = false from allr_no HGB.out hlt]; rfl, HB5.out⟩
        · have hb0 : ((kk : Int) == 0) = false := by rw [beq_eq_false_iff_ne]; omega
          rw [decide_eq_true h0, Bool.true_and] at HGD
          clear h0
          by_cases hi0 : i = 0
          · have hz1 : ¬ (0 : Int) < (i : Int) := by omega
            have hz2 : (i : Int) ≤ 0 := by omega
            have HGB : Hid (risGood ps i = true) := hid (by rw [HGD.out]; exact decide_eq_true (fun h => absurd hi0 (by omega)))
            clear HGD HKR hi0
            generalize bytesOf x = X at *
            go_wp2_with (go_at_call 178; refine (KC.out _ (HT.out _ HB.out) (HGG.out _ HB.out)).mono ?_; rintro e w5 ⟨rfl, hb5⟩; refine Hid.out ?_)
            refine hid ?_
            have HB5 := hid (HB.out.trans (hb5.mono HB.out.size))
            clear hb5
            go_wp2
            go_roundw
            case rel => exact ⟨i + 1, by omega, by go_num, HB5.out, by unfold risB; rw [allr_succ]; show (risB ps i && risGood ps i) = true; rw [HALL.out, HGB.out]; rfl⟩
            case measure => simp [RowKit.intOf]; omega
          · obtain ⟨j, rfl⟩ : ∃ j, i = j + 1 := ⟨i - 1, by omega⟩
            clear hi0
            have hjl : j < ps.length := by omega
            have hc0 := HKR.out.2 j hjl
            rw [show (⟨ps[j].toArray⟩ : ByteArray) = bytesOf ps[j] from rfl] at hc0
            have HGD2 : Hid (risGood ps (j + 1) = decide (0 < j + 1 → ps[j] < x)) := hid (by rw [HGD.out, Nat.add_sub_cancel, txt_at hjl])
            have b3 : (0 : Int) ≤ (j : Int) := by omega
            have b4 : (j : Int) < (ps.length : Int) := by omega
            have b5 : (0 : Int) ≤ (j : Int) + 1 := by omega
            have b6 : (j : Int) + 1 < (ps.length : Int) := by omega
            have b7 : (0 : Int) < (j : Int) + 1 := by omega
            clear HGD HKR
            generalize ps[j] = y at *
            by_cases hyx : y < x
            · have hle := less_yes hyx
              have HGB : Hid (risGood ps (j + 1) = true) := hid (by rw [HGD2.out]; exact decide_eq_true (fun _ => hyx))
              clear HGD2 hyx
              generalize bytesOf x = X at *
              generalize bytesOf y = Y at *
              go_wp2_with (go_at_call 178; refine (KC.out _ (HT.out _ HB.out) (HGG.out _ HB.out)).mono ?_; rintro e w5 ⟨rfl, hb5⟩; refine Hid.out ?_)
              refine hid ?_
              have HB5 := hid (HB.out.trans (hb5.mono HB.out.size))
              have r0 := (hb5.cell (p := ⟨g, j, none⟩) hgw).trans hc0
              clear hb5
              go_wp2
              go_roundw
              case rel => exact ⟨j + 1 + 1, by omega, by go_num, HB5.out, by unfold risB; rw [allr_succ]; show (risB ps (j + 1) && risGood ps (j + 1)) = true; rw [HALL.out, HGB.out]; rfl⟩
              case measure => simp [RowKit.intOf]; omega
            · have hle := less_no hyx
              have HGB : Hid (risGood ps (j + 1) = false) := hid (by rw [HGD2.out]; exact decide_eq_false (fun h => hyx (h (Nat.succ_pos j))))
              clear HGD2 hyx
              generalize bytesOf x = X at *
              generalize bytesOf y = Y at *
              go_wp2_with (go_at_call 178; refine (KC.out _ (HT.out _ HB.out) (HGG.out _ HB.out)).mono ?_; rintro e w5 ⟨rfl, hb5⟩; refine Hid.out ?_)
              refine hid ?_
              have HB5 := hid (HB.out.trans (hb5.mono HB.out.size))
              have r0 := (hb5.cell (p := ⟨g, j, none⟩) hgw).trans hc0
              clear hb5
              go_wp2
              go_ret
              exact ⟨by rw [← HR.out, show risB ps ps.length = false from allr_no HGB.out hlt]; rfl, HB5.out⟩
      · have hie : i = ps.length := by omega
        subst hie
        rw [HALL.out] at HR
        go_wp2
        go_ret
        exact ⟨by rw [← HR.out]; rfl, HB.out⟩
  · have d3 : (ps.length : Int) > (most : Int) := by omega
    rw [decide_eq_false h3]
    clear h3
    go_enter Tryd.func194, Tryd.ntmps194
    go_wp2
    go_ret
    exact ⟨rfl, Below.refl _ _⟩
end Go.Proofs.YtedbhlihdfaaaaaDoor
