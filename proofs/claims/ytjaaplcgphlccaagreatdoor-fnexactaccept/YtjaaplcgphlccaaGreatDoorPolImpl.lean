/- A row that is right, its key, and a rising list of terms: the program's. -/
import Derived.Test.YtjaaplcgphlccaaGreatDoorPolPlain
namespace Go.Proofs.YtjaaplcgphlccaaGreatDoor
open Go.RowKit
open Go.Lib (hid)

theorem pname_node (x : ByteArray) : nameB x.data.toList = decide ((nodeOf x).1 = 1) := name_node x

theorem less_yes {x y : List UInt8} (h : x < y) : Op.bytesLess (bytesOf x).toList (bytesOf y).toList = true := by
  rw [ByteArray.toList_eq, ByteArray.toList_eq, bytesLess_eq]
  exact decide_eq_true h

theorem less_no {x y : List UInt8} (h : ¬ x < y) : Op.bytesLess (bytesOf x).toList (bytesOf y).toList = false := by
  rw [ByteArray.toList_eq, ByteArray.toList_eq, bytesLess_eq]
  exact decide_eq_false h

set_option maxRecDepth 20000 in
set_option maxHeartbeats 4000000 in
theorem rising_impl (ps : List (List UInt8)) (hm : ps.length ≤ 1048576) (most : Nat) (hmost : most ≤ 1048576) (b : Value) (w : World) (hb : TextsAt w b ps) (hT : Tab w) (hG : 0 < w.heap.size) :
    Calls Tryz.prog 75 #[b, .int .i64 most] w fun e w' => e = .returned (.bool (decide (ps.length ≤ most) && risB ps ps.length)) ∧ Below w.heap.size w w' := by
  have HE := hid hb
  have HT := hid (fun W (hb : Below w.heap.size w W) => tab_on hT hG hb)
  have HGG := hid (fun W (hb : Below w.heap.size w W) => Nat.lt_of_lt_of_le hG hb.size)
  obtain ⟨q, d, rfl, hrest⟩ := hb
  clear hrest hT hG
  by_cases h3 : ps.length ≤ most
  · have d3 : ¬ (ps.length : Int) > (most : Int) := by omega
    rw [decide_eq_true h3, Bool.true_and]
    generalize hr : risB ps ps.length = r
    have HR := hid hr
    clear h3 hr
    go_enter Tryz.func75, Tryz.ntmps75
    go_wp2
    go_loopw [13] (fun iv wr => ∃ i : Nat, i ≤ ps.length ∧ iv = .int .i64 i ∧ Below w.heap.size w wr ∧ risB ps i = true) (fun iv _ => ps.length - (RowKit.intOf iv).toNat)
    case atStart => exact ⟨0, Nat.zero_le _, rfl, Below.refl _ _, rfl⟩
    case round =>
      obtain ⟨i, hi, rfl, hbel, hall⟩ := hrel
      have HB := hid hbel
      have HALL := hid hall
      by_cases hlt : i < ps.length
      · have hne : ps ≠ [] := fun h => by rw [h] at hlt; cases hlt
        obtain ⟨q', d', hv, hq⟩ := HE.out
        obtain ⟨rfl, rfl⟩ : q = q' ∧ d = d' := by injection hv with h1 h2 h3; exact ⟨h1, by omega⟩
        obtain ⟨g, rfl, hk⟩ := hq hne
        have hkr := hk.on hbel
        have HKR := hid hkr
        have hgw := hkr.1
        have hc1 := hkr.2 i hlt
        rw [show (⟨ps[i].toArray⟩ : ByteArray) = bytesOf ps[i] from rfl] at hc1
        have b1 : (0 : Int) ≤ (i : Int) := by omega
        have b2 : (i : Int) < (ps.length : Int) := by omega
        have KC := hid (fun W hT hG => kind_impl (bytesOf ps[i]) W hT hG)
        have HGD : Hid (risGood ps i = (decide ((nodeOf (bytesOf ps[i])).1 ≠ 0) && decide (0 < i → ps.getD (i - 1) [] < ps[i]))) := hid (by unfold risGood; rw [txt_at hlt])
        clear hv hq hk hkr hbel hall
        generalize ps[i] = x at *
        generalize (nodeOf (bytesOf x)).1 = kk at *
        by_cases h0 : kk = 0
        · have hb0 : ((kk : Int) == 0) = true := by rw [h0]; rfl
          have HGB : Hid (risGood ps i = false) := hid (by rw [HGD.out, decide_eq_false (fun h => h h0)]; rfl)
          clear h0 HGD HKR
          generalize bytesOf x = X at *
          go_wp2_with (go_at_call 63; refine (KC.out _ (HT.out _ HB.out) (HGG.out _ HB.out)).mono ?_; rintro e w5 ⟨rfl, hb5⟩; refine Hid.out ?_)
          refine hid ?_
          have HB5 := hid (HB.out.trans (hb5.mono HB.out.size))
          clear hb5
          go_wp2
          go_ret
          exact ⟨by rw [← HR.out, show risB ps ps.length = false from allr_no HGB.out hlt]; rfl, HB5.out⟩
        · have hb0 : ((kk : Int) == 0) = false := by rw [beq_eq_false_iff_ne]; omega
          rw [decide_eq_true h0, Bool.true_and] at HGD
          clear h0
          by_cases hi0 : i = 0
          · have hz1 : ¬ (0 : Int) < (i : Int) := by omega
            have hz2 : (i : Int) ≤ 0 := by omega
            have HGB : Hid (risGood ps i = true) := hid (by rw [HGD.out]; exact decide_eq_true (fun h => absurd hi0 (by omega)))
            clear HGD HKR hi0
            generalize bytesOf x = X at *
            go_wp2_with (go_at_call 63; refine (KC.out _ (HT.out _ HB.out) (HGG.out _ HB.out)).mono ?_; rintro e w5 ⟨rfl, hb5⟩; refine Hid.out ?_)
            refine hid ?_
            have HB5 := hid (HB.out.trans (hb5.mono HB.out.size))
            clear hb5
            go_wp2
            go_roundw
            case rel => exact ⟨i + 1, by omega, by go_num, HB5.out, by unfold risB; rw [allr_succ]; show (risB ps i && risGood ps i) = true; rw [HALL.out, HGB.out]; rfl⟩
            case measure => simp [RowKit.intOf]; omega
          · obtain ⟨j, rfl⟩ : ∃ j, i = j + 1 := ⟨i - 1, by omega⟩
            clear hi0
            have hjl : j < ps.length := by omega
            have hc0 := HKR.out.2 j hjl
            rw [show (⟨ps[j].toArray⟩ : ByteArray) = bytesOf ps[j] from rfl] at hc0
            have HGD2 : Hid (risGood ps (j + 1) = decide (0 < j + 1 → ps[j] < x)) := hid (by rw [HGD.out, Nat.add_sub_cancel, txt_at hjl])
            have b3 : (0 : Int) ≤ (j : Int) := by omega
            have b4 : (j : Int) < (ps.length : Int) := by omega
            have b5 : (0 : Int) ≤ (j : Int) + 1 := by omega
            have b6 : (j : Int) + 1 < (ps.length : Int) := by omega
            have b7 : (0 : Int) < (j : Int) + 1 := by omega
            clear HGD HKR
            generalize ps[j] = y at *
            by_cases hyx : y < x
            · have hle := less_yes hyx
              have HGB : Hid (risGood ps (j + 1) = true) := hid (by rw [HGD2.out]; exact decide_eq_true (fun _ => hyx))
              clear HGD2 hyx
              generalize bytesOf x = X at *
              generalize bytesOf y = Y at *
              go_wp2_with (go_at_call 63; refine (KC.out _ (HT.out _ HB.out) (HGG.out _ HB.out)).mono ?_; rintro e w5 ⟨rfl, hb5⟩; refine Hid.out ?_)
              refine hid ?_
              have HB5 := hid (HB.out.trans (hb5.mono HB.out.size))
              have r0 := (hb5.cell (p := ⟨g, j, none⟩) hgw).trans hc0
              clear hb5
              go_wp2
              go_roundw
              case rel => exact ⟨j + 1 + 1, by omega, by go_num, HB5.out, by unfold risB; rw [allr_succ]; show (risB ps (j + 1) && risGood ps (j + 1)) = true; rw [HALL.out, HGB.out]; rfl⟩
              case measure => simp [RowKit.intOf]; omega
            · have hle := less_no hyx
              have HGB : Hid (risGood ps (j + 1) = false) := hid (by rw [HGD2.out]; exact decide_eq_false (fun h => hyx (h (Nat.succ_pos j))))
              clear HGD2 hyx
              generalize bytesOf x = X at *
              generalize bytesOf y = Y at *
              go_wp2_with (go_at_call 63; refine (KC.out _ (HT.out _ HB.out) (HGG.out _ HB.out)).mono ?_; rintro e w5 ⟨rfl, hb5⟩; refine Hid.out ?_)
              refine hid ?_
              have HB5 := hid (HB.out.trans (hb5.mono HB.out.size))
              have r0 := (hb5.cell (p := ⟨g, j, none⟩) hgw).trans hc0
              clear hb5
              go_wp2
              go_ret
              exact ⟨by rw [← HR.out, show risB ps ps.length = false from allr_no HGB.out hlt]; rfl, HB5.out⟩
      · have hie : i = ps.length := by omega
        subst hie
        rw [HALL.out] at HR
        go_wp2
        go_ret
        exact ⟨by rw [← HR.out]; rfl, HB.out⟩
  · have d3 : (ps.length : Int) > (most : Int) := by omega
    rw [decide_eq_false h3]
    clear h3
    go_enter Tryz.func75, Tryz.ntmps75
    go_wp2
    go_ret
    exact ⟨rfl, Below.refl _ _⟩
end Go.Proofs.YtjaaplcgphlccaaGreatDoor
