/- Laid together: AccImpl, AccBook, AccBoth. -/
import Derived.Test.YtjaaplcgphlccaaGreatDoorAccPlain
import Derived.Test.YtjaaplcgphlccaaGreatDoorPackAsk
import Derived.Test.YtjaaplcgphlccaaGreatDoorRelBoth
import Derived.Test.YtjaaplcgphlccaaGreatDoorMakeImpl
import Derived.Test.YtjaaplcgphlccaaGreatDoorPackImpl
import Derived.BigQuiet
import Derived.Deep.RegionHeld3
import Derived.Maps.OwnSet
import Derived.Test.YtjaaplcgphlccaaGreatDoorRelTold

namespace Go.Proofs.YtjaaplcgphlccaaGreatDoor
open Go.RowKit Go.WideMaps Go.Maps
open Go.Lib (hid)

theorem acc_hop {B : Nat} {a b c : World} (h : Below B a b) (hB : B ≤ a.heap.size) (k : Below b.heap.size b c) : Below B a c := h.trans (k.mono (Nat.le_trans hB h.size))

theorem acc_drewN {b : Nat} {w w' : World} (h : Below b w w') : ∀ k, Below b w (w'.drewN k)
  | 0 => h
  | k + 1 => (acc_drewN h k).drew

theorem acc_deep {s : ByteArray} (h : (nodeOf s).1 ≠ 0) : nodeOf s = kindS 40 s.data.toList := by
  unfold nodeOf at h ⊢
  split at h
  · rw [if_pos ‹_›]
  · exact absurd rfl h

theorem acc_sign_parts {s : ByteArray} (h : (nodeOf s).1 = 5) : ∃ p m, nodeOf s = (5, [p, m]) := by
  obtain ⟨k, ps, hn⟩ : ∃ k ps, nodeOf s = (k, ps) := ⟨_, _, rfl⟩
  rw [hn] at h
  dsimp only at h
  subst h
  obtain ⟨_, hsh⟩ := node_brk hn (by omega)
  have hlen : ps.length = 2 := by
    unfold shapeB at hsh
    simp only [Bool.and_eq_true, decide_eq_true_eq] at hsh
    have := hsh.1
    rw [show leastOf 5 = 2 from rfl, show mostOf 5 = 2 from rfl] at this
    omega
  match ps, hlen with
  | [p, m], _ => exact ⟨p, m, hn⟩

set_option maxRecDepth 20000 in
theorem acc_read_sign (s : ByteArray) (p m : List UInt8) (h : nodeOf s = (5, [p, m])) (w : World) (hT : Tab w) (hG : 0 < w.heap.size) :
    Calls Tryz.prog 43 #[.string s] w fun e w' => ∃ g c t, e = .returned (.tuple #[.agg #[.int .i64 5, .string t, .slice (some ⟨g, 0, none⟩) 2 c], .bool true]) ∧ Below w.heap.size w w' ∧ g < w'.heap.size ∧ w'.cell? ⟨g, 1, none⟩ = some (.string (bytesOf p)) := by
  have h0 : (nodeOf s).1 ≠ 0 := by rw [h]; show (5 : Nat) ≠ 0; decide
  refine (read_well s w hT hG h0).mono fun e w' ⟨v, he, hr, hb⟩ => ?_
  have hno : nodeOf s = kindS 40 s.data.toList := by
    unfold nodeOf at h0 ⊢
    split at h0
    · rw [if_pos ‹_›]
    · exact absurd rfl h0
  rw [h] at hno
  obtain ⟨sv, hv, hrow⟩ := hr
  rw [show 39 + 1 = 40 from rfl, ← hno] at hrow hv
  subst hv
  rcases hrow with ⟨hnil, _⟩ | ⟨g, cap, rfl, hS, hcells⟩
  · cases hnil
  · obtain ⟨c0, c1, c2, _, h1, _, hr2⟩ := hcells 0 (by simp)
    obtain ⟨sv2, e2, _⟩ := hr2.shape
    have e3 : c1 = .string ⟨p.toArray⟩ := by
      injection e2 with e2
      simp at e2
      exact e2.2.1
    refine ⟨g, cap, _, he, hb, hS.2, ?_⟩
    rw [show (0 : Nat) * 3 + 1 = 1 from rfl] at h1
    rw [h1, e3]
    rfl

set_option maxRecDepth 20000 in
set_option maxHeartbeats 4000000 in
theorem publicOf_calls (s : ByteArray) (w : World) (hT : Tab w) (hG : 0 < w.heap.size) :
    Calls Tryz.prog 77 #[.string s] w fun e w' => e = .returned (.string (bytesOf (pubL s.data.toList))) ∧ Below w.heap.size w w' := by
  obtain ⟨w1, hw1⟩ : ∃ W, W = w.alloc (.cells #[.string s] 9) := ⟨_, rfl⟩
  have HB1 : Hid (Below w.heap.size w w1) := hid (by rw [hw1]; exact (Below.refl _ _).alloc (Nat.le_refl _) _)
  have HX : TextsAt w1 (.slice (some ⟨w.heap.size, 0, none⟩) 1 1) [s.data.toList] := ⟨_, 1, rfl, fun _ => ⟨w.heap.size, rfl, by rw [hw1]; simp, fun j hj => by
    have hj0 : j = 0 := by simp at hj; omega
    subst hj0
    rw [hw1, cell_of_row _ _ _ _ _ _ (heap_alloc_new w _)]
    rfl⟩⟩
  have CM := hid (make_impl 6 [s.data.toList] (some ⟨w.heap.size, 0, none⟩) 1 (by simp) w1 HX (tab_on hT hG HB1.out) (Nat.lt_of_lt_of_le hG HB1.out.size))
  unfold MadeOut at CM
  have HPL : Hid (bytesOf (pubL s.data.toList) = if madeB 6 [s.data.toList] = true then bytesOf (tmWith 6 [s.data.toList]) else ⟨#[]⟩) := hid (by unfold pubL; split <;> rfl)
  have HW1 := hid hw1
  clear hT HX hw1
  rw [show ((6 : Int).toNat) = 6 from rfl] at CM
  generalize bytesOf (pubL s.data.toList) = P at *
  generalize bytesOf (tmWith 6 [s.data.toList]) = Q at *
  cases hb : madeB 6 [s.data.toList] with
  | false =>
    rw [hb] at CM HPL
    clear hb
    go_enter Tryz.func77, Tryz.ntmps77
    go_wp2_with (go_at_call 86; rw [← HW1.out]; refine CM.out.mono ?_; rintro e w2 ⟨rfl, hb2⟩; refine Hid.out ?_)
    refine hid ?_
    have HB2 := hid (HB1.out.trans (hb2.mono HB1.out.size))
    clear hb2
    go_wp2
    go_ret
    exact ⟨by rw [HPL.out] <;> rfl, HB2.out⟩
  | true =>
    rw [hb] at CM HPL
    clear hb
    go_enter Tryz.func77, Tryz.ntmps77
    go_wp2_with (go_at_call 86; rw [← HW1.out]; refine CM.out.mono ?_; rintro e w2 ⟨rfl, hb2⟩; refine Hid.out ?_)
    refine hid ?_
    have HB2 := hid (HB1.out.trans (hb2.mono HB1.out.size))
    clear hb2
    go_wp2
    go_ret
    exact ⟨by rw [HPL.out] <;> rfl, HB2.out⟩

set_option maxRecDepth 20000 in
set_option maxHeartbeats 4000000 in
theorem sig_calls (is : List (List UInt8)) (s1 s2 s3 n1 : Nat) (t x name : ByteArray) (boots : Int) (w : World) (o1 : w.ownsMap Tryz.prog 9 (unitElem (H := Unit)) s1 n1 (setD is)) (hT : Tab w) (hG : 0 < w.heap.size) (hP : Lib.TabIs Tryz.prog w "internal/strconv.uint64pow10" .u64 Lib.pow10Tab) :
    Calls Tryz.prog 54 #[.agg #[.map (some s1), .map (some s2), .map (some s3)], .string t, .string x, .string name, .int .i64 boots] w fun e w' => e = .returned (.bool (sigA is x.data.toList name boots t.data.toList)) ∧ Below w.heap.size w w' := by
  have HTAB := hid hT
  have HPW := hid hP
  have HS : Hid (sigA is x.data.toList name boots t.data.toList = (decide ((nodeOf (bytesOf t.data.toList)).1 = 5) && (tokIs (partOf t.data.toList) x.data.toList name boots t.data.toList && decide (pubL (partOf t.data.toList) ∈ is)))) := hid rfl
  rw [set_bytes t] at HS
  generalize sigA is x.data.toList name boots t.data.toList = r at *
  have HM1 := hid (fun W (hB : Below w.heap.size w W) => o1.kept (grown_below (row := none) hB) (by simp))
  clear o1 hT hP
  have HB0_0 : Hid (Below w.heap.size w w) := hid (Below.refl _ _)
  have hz0 : w.heap.size ≤ w.heap.size := Nat.le_refl _
  obtain ⟨w1, hw1⟩ : ∃ W, W = w.alloc (.cells #[.map (some s1), .map (some s2), .map (some s3)] 51) := ⟨_, rfl⟩
  have hb1 : Below w.heap.size w w1 := by rw [hw1]; exact (Below.refl _ _).alloc (Nat.le_refl _) _
  have hz1 : w.heap.size < w1.heap.size := by rw [hw1]; simp
  have HVB_1 : Hid (w1.heap[w.heap.size]? = some (.cells #[.map (some s1), .map (some s2), .map (some s3)] 51)) := hid (by rw [hw1]; exact heap_alloc_new _ _)
  have HW1 := hid hw1
  have HB0_1 := hid (HB0_0.out.trans (hb1.mono HB0_0.out.size))
  clear hw1 hb1
  by_cases h5 : (nodeOf t).1 = 5
  · rw [decide_eq_true h5, Bool.true_and] at HS
    obtain ⟨p, m, hn⟩ := acc_sign_parts h5
    have hp : partOf t.data.toList = p := by unfold partOf; rw [set_bytes t, hn]; rfl
    rw [hp] at HS
    have CR := hid (fun W hT hG => acc_read_sign t p m hn W hT hG)
    clear hn h5 hp
    have CK := hid (fun W hT hG hP => token_impl (bytesOf p) x name boots W hT hG hP)
    have CPB := hid (fun W hT hG => publicOf_calls (bytesOf p) W hT hG)
    rw [bytesOf_list] at CK CPB
    unfold MadeOut at CK
    have CH := hid (fun W hB => shas_calls (setD (H := Unit) is) s1 n1 (bytesOf (pubL p)) W (by rw [bytesOf_size]; unfold maxLen; have := pub_size p; omega) (HM1.out W hB))
    rw [bytesOf_list] at CH
    have HTI : Hid (tokIs p x.data.toList name boots t.data.toList = ((tokO p x.data.toList name boots).1 && decide ((tokO p x.data.toList name boots).2 = t.data.toList))) := hid rfl
    rw [HTI.out] at HS
    clear HTI
    have HEQ := hid (fun l => acc_test l t)
    generalize (tokO p x.data.toList name boots).2 = tl at *
    generalize (tokO p x.data.toList name boots).1 = tb at *
    have HHS : Hid (Maps.has (setD (H := Unit) is) (.string (pubL p)) = decide (pubL p ∈ is)) := hid (by rw [Bool.eq_iff_iff, set_has, decide_eq_true_iff])
    rw [HHS.out] at CH
    clear HHS
    generalize decide (pubL p ∈ is) = hb at *
    generalize bytesOf (pubL p) = PB at *
    cases tb with
    | false =>
      have HZ : Hid (r = false) := hid (by rw [HS.out, Bool.false_and, Bool.false_and])
      clear HS
      rw [if_neg Bool.false_ne_true] at CK
      go_enter Tryz.func54, Tryz.ntmps54
      go_wp2_with (go_at_call 43; rw [← HW1.out]; refine (CR.out _ (tab_on HTAB.out hG HB0_1.out) (Nat.lt_of_lt_of_le hG HB0_1.out.size)).mono ?_; rintro e w2 ⟨g, c, ti, rfl, hb2, hg2, kg2⟩; refine Hid.out ?_)
      refine hid ?_
      have hz2 := hb2.size
      have HB0_2 := hid (HB0_1.out.trans (hb2.mono HB0_1.out.size))
      have HVB_2 := hid ((hb2.block _ (by omega)).trans HVB_1.out)
      have KG := hid kg2
      clear hb2 kg2 HVB_1
      obtain ⟨w3, hw3⟩ : ∃ W, W = w2.alloc (.cells #[.int .i64 5, .string ti, .slice (some ⟨g, 0, none⟩) 2 c] 67) := ⟨_, rfl⟩
      have hb3 : Below w2.heap.size w2 w3 := by rw [hw3]; exact (Below.refl _ _).alloc (Nat.le_refl _) _
      have hz3 : w2.heap.size < w3.heap.size := by rw [hw3]; simp
      have HB0_3 := hid (HB0_2.out.trans (hb3.mono HB0_2.out.size))
      have HVB_3 := hid ((hb3.block _ (by omega)).trans HVB_2.out)
      have kg := (hb3.cell (p := ⟨g, 1, none⟩) hg2).trans KG.out
      have HW3 := hid hw3
      rw [hw3] at kg
      clear hw3 hb3
      go_wp2_with (go_at_call 76; rw [← HW3.out]; refine (CK.out _ (tab_on HTAB.out hG HB0_3.out) (Nat.lt_of_lt_of_le hG HB0_3.out.size) (Num.tab_stays HB0_3.out HPW.out)).mono ?_; rintro e w4 ⟨rfl, hb4⟩; refine Hid.out ?_)
      refine hid ?_
      clear kg
      have hz4 := hb4.size
      have HB0_4 := hid (HB0_3.out.trans (hb4.mono HB0_3.out.size))
      have HVB_4 := hid ((hb4.block _ (by omega)).trans HVB_3.out)
      clear hb4 HVB_3
      go_wp2
      go_quiet (fail)
      go_wp2
      go_ret
      exact ⟨by rw [HZ.out] <;> rfl, acc_drewN HB0_4.out _⟩
    | true =>
      rw [if_pos rfl] at CK
      rw [Bool.true_and] at HS
      have hte := HEQ.out tl
      generalize bytesOf tl = TL at *
      by_cases hq : tl = t.data.toList
      · rw [decide_eq_true hq] at HS hte
        rw [Bool.true_and] at HS
        clear hq
        go_enter Tryz.func54, Tryz.ntmps54
        go_wp2_with (go_at_call 43; rw [← HW1.out]; refine (CR.out _ (tab_on HTAB.out hG HB0_1.out) (Nat.lt_of_lt_of_le hG HB0_1.out.size)).mono ?_; rintro e w2 ⟨g, c, ti, rfl, hb2, hg2, kg2⟩; refine Hid.out ?_)
        refine hid ?_
        have hz2 := hb2.size
        have HB0_2 := hid (HB0_1.out.trans (hb2.mono HB0_1.out.size))
        have HVB_2 := hid ((hb2.block _ (by omega)).trans HVB_1.out)
        have KG := hid kg2
        clear hb2 kg2 HVB_1
        obtain ⟨w3, hw3⟩ : ∃ W, W = w2.alloc (.cells #[.int .i64 5, .string ti, .slice (some ⟨g, 0, none⟩) 2 c] 67) := ⟨_, rfl⟩
        have hb3 : Below w2.heap.size w2 w3 := by rw [hw3]; exact (Below.refl _ _).alloc (Nat.le_refl _) _
        have hz3 : w2.heap.size < w3.heap.size := by rw [hw3]; simp
        have HB0_3 := hid (HB0_2.out.trans (hb3.mono HB0_2.out.size))
        have HVB_3 := hid ((hb3.block _ (by omega)).trans HVB_2.out)
        have kg := (hb3.cell (p := ⟨g, 1, none⟩) hg2).trans KG.out
        have HW3 := hid hw3
        rw [hw3] at kg
        clear hw3 hb3
        go_wp2_with (go_at_call 76; rw [← HW3.out]; refine (CK.out _ (tab_on HTAB.out hG HB0_3.out) (Nat.lt_of_lt_of_le hG HB0_3.out.size) (Num.tab_stays HB0_3.out HPW.out)).mono ?_; rintro e w4 ⟨rfl, hb4⟩; refine Hid.out ?_)
        refine hid ?_
        clear kg
        have hz4 := hb4.size
        have HB0_4 := hid (HB0_3.out.trans (hb4.mono HB0_3.out.size))
        have HVB_4 := hid ((hb4.block _ (by omega)).trans HVB_3.out)
        clear hb4 HVB_3
        have HS2 := HS
        have CP2 := hid (fun W (h : Below w4.heap.size w4 W) => CPB.out W (tab_on HTAB.out hG (HB0_4.out.trans (h.mono HB0_4.out.size))) (Nat.lt_of_lt_of_le hG (HB0_4.out.trans (h.mono HB0_4.out.size)).size))
        have CH2 := hid (fun W (h : Below w4.heap.size w4 W) => CH.out W (HB0_4.out.trans (h.mono HB0_4.out.size)))
        have HDR : Below w4.heap.size w4 w4.drew := Below.drew (Below.refl _ _)
        have k_B_0 : ∀ W : World, Below w4.heap.size w4 W → W.cell? ⟨_, 0, none⟩ = some (.map (some s1)) := fun W hW => (cell_of_row _ _ 0 _ _ _ ((hW.block _ (by omega)).trans HVB_4.out)).trans rfl
        have k_B_1 : ∀ W : World, Below w4.heap.size w4 W → W.cell? ⟨_, 1, none⟩ = some (.map (some s2)) := fun W hW => (cell_of_row _ _ 1 _ _ _ ((hW.block _ (by omega)).trans HVB_4.out)).trans rfl
        have k_B_2 : ∀ W : World, Below w4.heap.size w4 W → W.cell? ⟨_, 2, none⟩ = some (.map (some s3)) := fun W hW => (cell_of_row _ _ 2 _ _ _ ((hW.block _ (by omega)).trans HVB_4.out)).trans rfl
        go_wp2
        go_region_held3 (fun w' => Below w4.heap.size w4 w') (first | with_reducible assumption | exact Below.drew (Below.refl _ _) | exact acc_hop (by assumption) (by simp) (by assumption)) ((first | (go_at_call 77; refine (CP2.out _ (by assumption)).mono ?_; rintro e x1 ⟨rfl, hy1⟩) | (go_at_call 53; refine (CH2.out _ (by assumption)).mono ?_; rintro e x2 ⟨rfl, hy2⟩) | (fail "no arm")))
        rename_i hS
        have hb5 := hS
        clear k_B_0 k_B_1 k_B_2
        generalize x2 = w5 at *
        clear hS
        have hz5 := hb5.size
        have HB0_5 := hid (HB0_4.out.trans (hb5.mono HB0_4.out.size))
        have HVB_5 := hid ((hb5.block _ (by omega)).trans HVB_4.out)
        clear HB0_4 HVB_4
        clear hb5
        go_wp2
        go_ret
        exact ⟨by rw [HS2.out] <;> rfl, HB0_5.out⟩
      · rw [decide_eq_false hq] at HS hte
        have HZ : Hid (r = false) := hid (by rw [HS.out, Bool.false_and])
        clear hq HS
        go_enter Tryz.func54, Tryz.ntmps54
        go_wp2_with (go_at_call 43; rw [← HW1.out]; refine (CR.out _ (tab_on HTAB.out hG HB0_1.out) (Nat.lt_of_lt_of_le hG HB0_1.out.size)).mono ?_; rintro e w2 ⟨g, c, ti, rfl, hb2, hg2, kg2⟩; refine Hid.out ?_)
        refine hid ?_
        have hz2 := hb2.size
        have HB0_2 := hid (HB0_1.out.trans (hb2.mono HB0_1.out.size))
        have HVB_2 := hid ((hb2.block _ (by omega)).trans HVB_1.out)
        have KG := hid kg2
        clear hb2 kg2 HVB_1
        obtain ⟨w3, hw3⟩ : ∃ W, W = w2.alloc (.cells #[.int .i64 5, .string ti, .slice (some ⟨g, 0, none⟩) 2 c] 67) := ⟨_, rfl⟩
        have hb3 : Below w2.heap.size w2 w3 := by rw [hw3]; exact (Below.refl _ _).alloc (Nat.le_refl _) _
        have hz3 : w2.heap.size < w3.heap.size := by rw [hw3]; simp
        have HB0_3 := hid (HB0_2.out.trans (hb3.mono HB0_2.out.size))
        have HVB_3 := hid ((hb3.block _ (by omega)).trans HVB_2.out)
        have kg := (hb3.cell (p := ⟨g, 1, none⟩) hg2).trans KG.out
        have HW3 := hid hw3
        rw [hw3] at kg
        clear hw3 hb3
        go_wp2_with (go_at_call 76; rw [← HW3.out]; refine (CK.out _ (tab_on HTAB.out hG HB0_3.out) (Nat.lt_of_lt_of_le hG HB0_3.out.size) (Num.tab_stays HB0_3.out HPW.out)).mono ?_; rintro e w4 ⟨rfl, hb4⟩; refine Hid.out ?_)
        refine hid ?_
        clear kg
        have hz4 := hb4.size
        have HB0_4 := hid (HB0_3.out.trans (hb4.mono HB0_3.out.size))
        have HVB_4 := hid ((hb4.block _ (by omega)).trans HVB_3.out)
        clear hb4 HVB_3
        go_wp2
        go_quiet (fail)
        go_wp2
        go_ret
        exact ⟨by rw [HZ.out] <;> rfl, acc_drewN HB0_4.out _⟩
  · rw [decide_eq_false h5, Bool.false_and] at HS
    have HZ : Hid (r = false) := HS
    by_cases h0 : (nodeOf t).1 = 0
    · skip
      have CR := hid (fun W hT hG => read_none t W hT hG h0)
      clear h0 h5
      go_enter Tryz.func54, Tryz.ntmps54
      go_wp2_with (go_at_call 43; rw [← HW1.out]; refine (CR.out _ (tab_on HTAB.out hG HB0_1.out) (Nat.lt_of_lt_of_le hG HB0_1.out.size)).mono ?_; rintro e w2 ⟨rfl, hb2⟩; refine Hid.out ?_)
      refine hid ?_
      have hz2 := hb2.size
      have HB0_2 := hid (HB0_1.out.trans (hb2.mono HB0_1.out.size))
      have HVB_2 := hid ((hb2.block _ (by omega)).trans HVB_1.out)
      clear HB0_1 HVB_1
      clear hb2
      go_wp2
      go_ret
      exact ⟨by rw [HZ.out] <;> rfl, HB0_2.out.alloc HB0_2.out.size _⟩
    · skip
      have CR := hid (fun W hT hG => read_well t W hT hG h0)
      have hno := acc_deep h0
      have h66 : ((kindS 40 t.data.toList).1 : Int) ≠ 5 := by rw [← hno]; omega
      have HK6 : Hid ((((kindS 40 t.data.toList).1 : Nat) : Int) != 5) := hid (by simpa using h66)
      clear h0 h5 hno h66
      go_enter Tryz.func54, Tryz.ntmps54
      go_wp2_with (go_at_call 43; rw [← HW1.out]; refine (CR.out _ (tab_on HTAB.out hG HB0_1.out) (Nat.lt_of_lt_of_le hG HB0_1.out.size)).mono ?_; rintro e w2 ⟨v, rfl, hr1, hb2⟩; refine Hid.out ?_)
      refine hid ?_
      have hz2 := hb2.size
      have HB0_2 := hid (HB0_1.out.trans (hb2.mono HB0_1.out.size))
      have HVB_2 := hid ((hb2.block _ (by omega)).trans HVB_1.out)
      clear HB0_1 HVB_1
      clear hb2
      obtain ⟨sv, rfl, pq, n, c, rfl⟩ := hr1.shape
      clear hr1
      have hk6 := HK6.out
      generalize (kindS 40 t.data.toList).1 = kk at *
      go_wp2
      go_ret
      exact ⟨by rw [HZ.out] <;> rfl, HB0_2.out.alloc HB0_2.out.size _⟩
end Go.Proofs.YtjaaplcgphlccaaGreatDoor

namespace Go.Proofs.YtjaaplcgphlccaaGreatDoor
open Go.RowKit Go.WideMaps Go.Maps
open Go.Lib (hid)

set_option maxRecDepth 20000 in
set_option maxHeartbeats 4000000 in
theorem accept_calls (is ask ts : List (List UInt8)) (s1 s2 s3 n1 n2 n3 : Nat) (t x name : ByteArray) (boots : Int) (hx : x.size ≤ maxLen) (hm : n3 < 1048576) (h23 : s2 < s3) (hl : Maps.size (setD (H := Unit) ts) = ts.length) (hgs : goodA is x.data.toList name boots t.data.toList = sigA is x.data.toList name boots t.data.toList) (w : World)
    (o1 : w.ownsMap Tryz.prog 9 (unitElem (H := Unit)) s1 n1 (setD is)) (o2 : w.ownsMap Tryz.prog 9 (unitElem (H := Unit)) s2 n2 (setD ask)) (o3 : w.ownsMap Tryz.prog 9 (unitElem (H := Unit)) s3 n3 (setD ts)) (hT : Tab w) (hG : 0 < w.heap.size) (hP : Lib.TabIs Tryz.prog w "internal/strconv.uint64pow10" .u64 Lib.pow10Tab) :
    Calls Tryz.prog 28 #[.agg #[.map (some s1), .map (some s2), .map (some s3)], .string t, .string x, .string name, .int .i64 boots] w fun e w' => e = .returned (.int .i64 (accL is ask ts x name boots t)) ∧
      (accL is ask ts x name boots t ≠ 0 → Below w.heap.size w w') ∧ (accL is ask ts x name boots t = 0 → ∃ wm, w.grownBy wm (some s2) ∧ wm.grownBy w' (some s3) ∧ w'.ownsMap Tryz.prog 9 (unitElem (H := Unit)) s2 n2 ((setD (H := Unit) ask).del (.string x.data.toList)) ∧ w'.ownsMap Tryz.prog 9 (unitElem (H := Unit)) s3 (n3 + 1) ((setD (H := Unit) ts).put (.string x.data.toList) (.agg []))) := by
  have HKY := hid (keyOf_string_mk (P := Tryz.prog) Tryz.underlying9 hx)
  have C2 := hid (fun W (hB : Below w.heap.size w W) => shas_calls (setD (H := Unit) ask) s2 n2 x W hx (o2.kept (grown_below (row := none) hB) (by simp)))
  have CS := hid (fun W (hB : Below w.heap.size w W) => sig_calls is s1 s2 s3 n1 t x name boots W (o1.kept (grown_below (row := none) hB) (by simp)) (tab_on hT hG hB) (Nat.lt_of_lt_of_le hG hB.size) (Num.tab_stays hB hP))
  have CP := hid (fun W h => sput_calls s3 n3 (setD (H := Unit) ts) x W hx h hm)
  have HO2 := hid o2
  have HO3 := hid o3
  have hs2 := o2.lt
  have hs3 := o3.lt
  have HA : Hid (accL is ask ts x name boots t = if x.data.toList ∉ ask then 5 else if goodA is x.data.toList name boots t.data.toList = false then 6 else if 200 ≤ ts.length then 4 else 0) := hid rfl
  rw [hgs] at HA
  have HB2 : Hid (Maps.has (setD (H := Unit) ask) (.string x.data.toList) = decide (x.data.toList ∈ ask)) := hid (by rw [Bool.eq_iff_iff, set_has, decide_eq_true_iff])
  rw [HB2.out] at C2
  clear HB2 o1 o2 o3 hgs hP
  have HTAB := hid hT
  clear hT
  generalize accL is ask ts x name boots t = r at *
  generalize sigA is x.data.toList name boots t.data.toList = gb at *
  have HB0_0 : Hid (Below w.heap.size w w) := hid (Below.refl _ _)
  have hz0 : w.heap.size ≤ w.heap.size := Nat.le_refl _
  obtain ⟨w1, hw1⟩ : ∃ W, W = w.alloc (.cells #[.map (some s1), .map (some s2), .map (some s3)] 51) := ⟨_, rfl⟩
  have hb1 : Below w.heap.size w w1 := by rw [hw1]; exact (Below.refl _ _).alloc (Nat.le_refl _) _
  have hz1 : w.heap.size < w1.heap.size := by rw [hw1]; simp
  have HVB_1 : Hid (w1.heap[w.heap.size]? = some (.cells #[.map (some s1), .map (some s2), .map (some s3)] 51)) := hid (by rw [hw1]; exact heap_alloc_new _ _)
  have HW1 := hid hw1
  have HB0_1 := hid (HB0_0.out.trans (hb1.mono HB0_0.out.size))
  clear hw1 hb1
  by_cases m2 : x.data.toList ∈ ask
  · rw [show decide (x.data.toList ∈ ask) = true from decide_eq_true m2] at C2
    rw [if_neg (fun h => h m2)] at HA
    clear m2
    cases gb with
    | false =>
      have HZ : Hid (r = 6) := hid (by rw [HA.out, if_pos rfl])
      clear HA
      go_enter Tryz.func28, Tryz.ntmps28
      go_wp2_with (go_at_call 53; rw [← HW1.out]; refine (C2.out _ HB0_1.out).mono ?_; rintro e w2 ⟨rfl, hb2⟩; refine Hid.out ?_)
      refine hid ?_
      have hz2 := hb2.size
      have HB0_2 := hid (HB0_1.out.trans (hb2.mono HB0_1.out.size))
      have HVB_2 := hid ((hb2.block _ (by omega)).trans HVB_1.out)
      clear HB0_1 HVB_1
      clear hb2
      have k_B_0 := (cell_of_row _ _ 0 _ _ _ HVB_2.out).trans rfl
      have k_B_1 := (cell_of_row _ _ 1 _ _ _ HVB_2.out).trans rfl
      have k_B_2 := (cell_of_row _ _ 2 _ _ _ HVB_2.out).trans rfl
      obtain ⟨k0, k1, k2⟩ := three_refs HVB_2.out
      go_wp2_with (go_at_call 54; refine (CS.out _ HB0_2.out).mono ?_; rintro e w3 ⟨rfl, hb3⟩; refine Hid.out ?_)
      refine hid ?_
      clear k_B_0 k_B_1 k_B_2
      have hz3 := hb3.size
      have HB0_3 := hid (HB0_2.out.trans (hb3.mono HB0_2.out.size))
      have HVB_3 := hid ((hb3.block _ (by omega)).trans HVB_2.out)
      clear HB0_2 HVB_2
      clear hb3
      clear k0 k1 k2
      go_wp2
      go_ret
      exact ⟨by rw [HZ.out] <;> rfl, fun _ => HB0_3.out, fun h => absurd (HZ.out.symm.trans h) (by decide)⟩
    | true =>
      rw [if_neg (fun h => by cases h)] at HA
      by_cases h200 : 200 ≤ ts.length
      · have HZ : Hid (r = 4) := hid (by rw [HA.out, if_pos h200])
        have hge : decide ((200 : Int) ≤ (ts.length : Int)) = true := decide_eq_true (by omega)
        clear HA
        go_enter Tryz.func28, Tryz.ntmps28
        go_wp2_with (go_at_call 53; rw [← HW1.out]; refine (C2.out _ HB0_1.out).mono ?_; rintro e w2 ⟨rfl, hb2⟩; refine Hid.out ?_)
        refine hid ?_
        have hz2 := hb2.size
        have HB0_2 := hid (HB0_1.out.trans (hb2.mono HB0_1.out.size))
        have HVB_2 := hid ((hb2.block _ (by omega)).trans HVB_1.out)
        clear HB0_1 HVB_1
        clear hb2
        have k_B_0 := (cell_of_row _ _ 0 _ _ _ HVB_2.out).trans rfl
        have k_B_1 := (cell_of_row _ _ 1 _ _ _ HVB_2.out).trans rfl
        have k_B_2 := (cell_of_row _ _ 2 _ _ _ HVB_2.out).trans rfl
        obtain ⟨k0, k1, k2⟩ := three_refs HVB_2.out
        go_wp2_with (go_at_call 54; refine (CS.out _ HB0_2.out).mono ?_; rintro e w3 ⟨rfl, hb3⟩; refine Hid.out ?_)
        refine hid ?_
        clear k_B_0 k_B_1 k_B_2
        have hz3 := hb3.size
        have HB0_3 := hid (HB0_2.out.trans (hb3.mono HB0_2.out.size))
        have HVB_3 := hid ((hb3.block _ (by omega)).trans HVB_2.out)
        clear HB0_2 HVB_2
        clear hb3
        clear k0 k1 k2
        have HOL := hid (HO3.out.kept (grown_below (row := none) HB0_3.out) (by simp))
        have k_B_0 := (cell_of_row _ _ 0 _ _ _ HVB_3.out).trans rfl
        have k_B_1 := (cell_of_row _ _ 1 _ _ _ HVB_3.out).trans rfl
        have k_B_2 := (cell_of_row _ _ 2 _ _ _ HVB_3.out).trans rfl
        go_wp2_with (first
          | (refine wpList_len_own _ rfl _ 49 rfl 9 90 Tryz.underlying49 (unitElem (H := Unit)) s3 n3 (setD (H := Unit) ts) rfl HOL.out ?_)
          | (fail "no arm"))
        go_wp2
        go_ret
        exact ⟨by rw [HZ.out] <;> rfl, fun _ => HB0_3.out, fun h => absurd (HZ.out.symm.trans h) (by decide)⟩
      · have HZ : Hid (r = 0) := hid (by rw [HA.out, if_neg h200])
        have hge : decide ((200 : Int) ≤ (ts.length : Int)) = false := decide_eq_false (by omega)
        clear HA
        go_enter Tryz.func28, Tryz.ntmps28
        go_wp2_with (go_at_call 53; rw [← HW1.out]; refine (C2.out _ HB0_1.out).mono ?_; rintro e w2 ⟨rfl, hb2⟩; refine Hid.out ?_)
        refine hid ?_
        have hz2 := hb2.size
        have HB0_2 := hid (HB0_1.out.trans (hb2.mono HB0_1.out.size))
        have HVB_2 := hid ((hb2.block _ (by omega)).trans HVB_1.out)
        clear HB0_1 HVB_1
        clear hb2
        have k_B_0 := (cell_of_row _ _ 0 _ _ _ HVB_2.out).trans rfl
        have k_B_1 := (cell_of_row _ _ 1 _ _ _ HVB_2.out).trans rfl
        have k_B_2 := (cell_of_row _ _ 2 _ _ _ HVB_2.out).trans rfl
        obtain ⟨k0, k1, k2⟩ := three_refs HVB_2.out
        go_wp2_with (go_at_call 54; refine (CS.out _ HB0_2.out).mono ?_; rintro e w3 ⟨rfl, hb3⟩; refine Hid.out ?_)
        refine hid ?_
        clear k_B_0 k_B_1 k_B_2
        have hz3 := hb3.size
        have HB0_3 := hid (HB0_2.out.trans (hb3.mono HB0_2.out.size))
        have HVB_3 := hid ((hb3.block _ (by omega)).trans HVB_2.out)
        clear HB0_2 HVB_2
        clear hb3
        clear k0 k1 k2
        have HOD := hid (HO2.out.kept (grown_below (row := none) HB0_3.out) (by simp))
        have HOL := hid (HO3.out.kept (grown_below (row := none) HB0_3.out) (by simp))
        have k_B_0 := (cell_of_row _ _ 0 _ _ _ HVB_3.out).trans rfl
        have k_B_1 := (cell_of_row _ _ 1 _ _ _ HVB_3.out).trans rfl
        have k_B_2 := (cell_of_row _ _ 2 _ _ _ HVB_3.out).trans rfl
        go_wp2_with (first
          | (refine wpList_len_own _ rfl _ 49 rfl 9 90 Tryz.underlying49 (unitElem (H := Unit)) s3 n3 (setD (H := Unit) ts) rfl HOL.out ?_)
          | (at_delete; refine wpList_delete_own _ rfl _ _ 49 9 rfl 90 setKeyed Tryz.underlying49 (unitElem (H := Unit)) s2 n2 (setD (H := Unit) ask) rfl HOD.out _ _ rfl HKY.out ?_; intro w8 ho8 ht8; refine Hid.out ?_)
          | (fail "no arm"))
        refine hid ?_
        have hg8 := ht8.grown
        have hz8 := hg8.size
        have HO8 := hid ho8
        have HG8 := hid ((grown_below (row := some s2) HB0_3.out).trans hg8)
        have HT8 := hid (HOL.out.kept hg8 (by simp; omega))
        have HV8 := hid ((hg8.block w.heap.size (by omega) (fun e => by have e2 := Option.some.inj e; omega)).trans HVB_3.out)
        clear ho8 ht8 hg8
        obtain ⟨k0, k1, k2⟩ := three_refs HV8.out
        go_wp2_with (first
          | (go_at_call 55; refine (CP.out _ HT8.out).mono ?_; rintro e w9 ⟨rfl, ho9, hg9⟩; refine Hid.out ?_)
          | (fail "no arm"))
        refine hid ?_
        have HO9 := hid ho9
        have HG9 := hid hg9
        have HD9 := hid (HO8.out.kept hg9 (by simp; omega))
        clear ho9 hg9
        go_wp2
        go_ret
        exact ⟨by rw [HZ.out] <;> rfl, fun h => absurd HZ.out h, fun _ => ⟨_, HG8.out, HG9.out, HD9.out, HO9.out⟩⟩
  · rw [show decide (x.data.toList ∈ ask) = false from decide_eq_false m2] at C2
    have HZ : Hid (r = 5) := hid (by rw [HA.out, if_pos m2])
    clear HA m2
    go_enter Tryz.func28, Tryz.ntmps28
    go_wp2_with (go_at_call 53; rw [← HW1.out]; refine (C2.out _ HB0_1.out).mono ?_; rintro e w2 ⟨rfl, hb2⟩; refine Hid.out ?_)
    refine hid ?_
    have hz2 := hb2.size
    have HB0_2 := hid (HB0_1.out.trans (hb2.mono HB0_1.out.size))
    have HVB_2 := hid ((hb2.block _ (by omega)).trans HVB_1.out)
    clear HB0_1 HVB_1
    clear hb2
    go_wp2
    go_ret
    exact ⟨by rw [HZ.out] <;> rfl, fun _ => HB0_2.out, fun h => absurd (HZ.out.symm.trans h) (by decide)⟩
end Go.Proofs.YtjaaplcgphlccaaGreatDoor

namespace Go.Proofs.YtjaaplcgphlccaaGreatDoor
open Go.RowKit Go.WideMaps Go.Maps
open Go.Lib (hid)

theorem acc2_rising {is ask ts : List (List UInt8)} {x name t : ByteArray} {boots : Int} (h : Rising ask) : Rising (acc2 is ask ts x name boots t) := by
  unfold acc2
  split
  · exact lessR_rising h _
  · exact h

theorem acc3_rising {is ask ts : List (List UInt8)} {x name t : ByteArray} {boots : Int} (h : Rising ts) : Rising (acc3 is ask ts x name boots t) := by
  unfold acc3
  split
  · exact insR_rising _ _
  · exact h

theorem rel_pubs {is ask ts : List (List UInt8)} (h : relB is ask ts = true) : ∀ k ∈ is, (nodeOf (bytesOf k)).1 = 6 := by
  unfold relB at h
  rw [Bool.and_eq_true] at h
  exact pubs_iff.1 h.2

theorem below_acc_al {b : Nat} {w W : World} (h : Below w.heap.size w W) (hb : w.heap.size ≤ b) (x0 x1 x2 : Value) (o : Obj) : Below w.heap.size w ((((W.setCell ⟨b, 0, none⟩ x0).setCell ⟨b, 1, none⟩ x1).setCell ⟨b, 2, none⟩ x2).alloc o) :=
  (below_three h hb x0 x1 x2).alloc (below_three h hb x0 x1 x2).size o

set_option maxRecDepth 20000 in
set_option maxHeartbeats 4000000 in
theorem acc_book (is ask ts : List (List UInt8)) (t x name : ByteArray) (boots : Int) (hx : x.size ≤ maxLen) (hr : relB is ask ts = true) (s1 s2 s3 : Nat) (h12 : s1 < s2) (h23 : s2 < s3) (w : World)
    (o1 : w.ownsMap Tryz.prog 9 (unitElem (H := Unit)) s1 is.length (setD is)) (o2 : w.ownsMap Tryz.prog 9 (unitElem (H := Unit)) s2 ask.length (setD ask)) (o3 : w.ownsMap Tryz.prog 9 (unitElem (H := Unit)) s3 ts.length (setD ts)) (hT : Tab w) (hG : 0 < w.heap.size) (hP : Lib.TabIs Tryz.prog w "internal/strconv.uint64pow10" .u64 Lib.pow10Tab) :
    Calls Tryz.prog 28 #[.agg #[.map (some s1), .map (some s2), .map (some s3)], .string t, .string x, .string name, .int .i64 boots] w fun e w' => e = .returned (.int .i64 (accL is ask ts x name boots t)) ∧ (∃ wm, w.grownBy wm (some s2) ∧ wm.grownBy w' (some s3)) ∧
      ∃ (n2 : Nat) (D2 : DataW Unit) (n3 : Nat) (D3 : DataW Unit), w'.ownsMap Tryz.prog 9 (unitElem (H := Unit)) s1 is.length (setD is) ∧ w'.ownsMap Tryz.prog 9 (unitElem (H := Unit)) s2 n2 D2 ∧ w'.ownsMap Tryz.prog 9 (unitElem (H := Unit)) s3 n3 D3 ∧
        Maps.size D2 ≤ 1048576 ∧ (∀ z, has D2 (.string z) = true ↔ z ∈ acc2 is ask ts x name boots t) ∧ Maps.size D3 ≤ 1048576 ∧ (∀ z, has D3 (.string z) = true ↔ z ∈ acc3 is ask ts x name boots t) := by
  obtain ⟨⟨a1, a2⟩, ⟨b1, b2⟩, ⟨c1, c2⟩⟩ := rel_parts hr
  have hs2 := size_setD (H := Unit) b2
  have hs3 := size_setD (H := Unit) c2
  refine (accept_calls is ask ts s1 s2 s3 is.length ask.length ts.length t x name boots hx (by omega) h23 hs3 (good_sig (rel_pubs hr) _ _ _ _) w o1 o2 o3 hT hG hP).mono fun e w' h => ?_
  obtain ⟨he, h1, h2⟩ := h
  by_cases h0 : accL is ask ts x name boots t = 0
  · obtain ⟨wm, g1, g2, p2, p3⟩ := h2 h0
    refine ⟨he, ⟨wm, g1, g2⟩, _, _, _, _, (o1.kept g1 (by simp; omega)).kept g2 (by simp; omega), p2, p3, ?_, fun z => ?_, ?_, fun z => ?_⟩
    · have := p2.size_le
      omega
    · unfold acc2
      rw [if_pos h0, lessR_mem]
      by_cases hz : z = x.data.toList
      · subst hz
        exact ⟨fun h => by rw [has_del_same] at h; (cases h), fun h => absurd rfl h.2⟩
      · rw [has_del_other (fun e => hz (by injection e)), set_has]
        exact ⟨fun h => ⟨h, hz⟩, fun h => h.1⟩
    · have := p3.size_le
      omega
    · unfold acc3
      rw [if_pos h0, insR_mem]
      by_cases hz : z = x.data.toList
      · subst hz
        exact ⟨fun _ => Or.inr rfl, fun _ => has_put_same (tidy_set _).isMap (setKeyed.key (keyOf_string_mk (P := Tryz.prog) Tryz.underlying9 hx)) _⟩
      · rw [has_put_other (fun e => hz (by injection e)), set_has]
        exact ⟨Or.inl, fun h => h.elim id (fun e => absurd e hz)⟩
  · have hb := h1 h0
    refine ⟨he, ⟨w', grown_below (row := some s2) hb, grown_below (row := some s3) (Below.refl _ _)⟩, _, _, _, _, o1.kept (grown_below (row := none) hb) (by simp), o2.kept (grown_below (row := none) hb) (by simp), o3.kept (grown_below (row := none) hb) (by simp), by rw [hs2]; omega, fun z => ?_, by rw [hs3]; omega, fun z => ?_⟩
    · unfold acc2
      rw [if_neg h0]
      exact set_has ask z
    · unfold acc3
      rw [if_neg h0]
      exact set_has ts z

set_option maxRecDepth 20000 in
set_option maxHeartbeats 4000000 in
theorem acc_impl (is ask ts : List (List UInt8)) (n1 : is.length ≤ 1048576) (s1 : ∀ p ∈ is, p.length ≤ 9223372036854775807) (n2 : ask.length ≤ 1048576) (s2 : ∀ p ∈ ask, p.length ≤ 9223372036854775807) (n3 : ts.length ≤ 1048576) (s3 : ∀ p ∈ ts, p.length ≤ 9223372036854775807) (t x name : ByteArray) (boots : Int) (hx : x.size ≤ maxLen) (a1 a2 a3 : Value) (w : World) (h1 : TextsAt w a1 is) (h2 : TextsAt w a2 ask) (h3 : TextsAt w a3 ts) (hT : Tab w) (hG : 0 < w.heap.size) (hP : Lib.TabIs Tryz.prog w "internal/strconv.uint64pow10" .u64 Lib.pow10Tab) :
    Calls Tryz.prog 8 #[.agg #[a1, a2, a3], .string t, .string x, .string name, .int .i64 boots] w (AccPost is ask ts x name boots t w) := by
  have HFa := hid h1
  have HFb := hid h2
  have HFc := hid h3
  have HTAB := hid hT
  have HPW := hid hP
  have CO := hid (fun W x1 x2 x3 hT hG => openRel_calls is ask ts n1 s1 n2 s2 n3 s3 a1 a2 a3 W x1 x2 x3 hT hG)
  unfold RelPost at CO
  obtain ⟨p, c, rfl, t1⟩ := h1
  obtain ⟨q, d, rfl, t2⟩ := h2
  obtain ⟨u, v, rfl, t3⟩ := h3
  clear t1 t2 t3 n1 n2 n3 s1 s2 s3 hT hP
  have HB0_0 : Hid (Below w.heap.size w w) := hid (Below.refl _ _)
  have hz0 : w.heap.size ≤ w.heap.size := Nat.le_refl _
  obtain ⟨w1, hw1⟩ : ∃ W, W = w.alloc (.cells #[.slice p is.length c, .slice q ask.length d, .slice u ts.length v] 26) := ⟨_, rfl⟩
  have hb1 : Below w.heap.size w w1 := by rw [hw1]; exact (Below.refl _ _).alloc (Nat.le_refl _) _
  have hz1 : w.heap.size < w1.heap.size := by rw [hw1]; simp
  have HVV_1 : Hid (w1.heap[w.heap.size]? = some (.cells #[.slice p is.length c, .slice q ask.length d, .slice u ts.length v] 26)) := hid (by rw [hw1]; exact heap_alloc_new _ _)
  have HW1 := hid hw1
  have HB0_1 := hid (HB0_0.out.trans (hb1.mono HB0_0.out.size))
  clear hw1 hb1
  obtain ⟨w2, hw2⟩ : ∃ W, W = w1.alloc (.cells #[.slice none 0 0, .slice none 0 0, .slice none 0 0] 26) := ⟨_, rfl⟩
  have hb2 : Below w1.heap.size w1 w2 := by rw [hw2]; exact (Below.refl _ _).alloc (Nat.le_refl _) _
  have hz2 : w1.heap.size < w2.heap.size := by rw [hw2]; simp
  have HVZ_2 : Hid (w2.heap[w1.heap.size]? = some (.cells #[.slice none 0 0, .slice none 0 0, .slice none 0 0] 26)) := hid (by rw [hw2]; exact heap_alloc_new _ _)
  have HW2 := hid hw2
  have HB0_2 := hid (HB0_1.out.trans (hb2.mono HB0_1.out.size))
  have HVV_2 := hid ((hb2.block _ (by omega)).trans HVV_1.out)
  clear HB0_1
  clear hw2 hb2
  have hzL : w1.heap.size = w.heap.size + 1 := by rw [HW1.out]; simp
  have hzL2 : w.heap.size + 1 < w2.heap.size := by omega
  rw [hzL] at HVZ_2
  clear hzL
  cases hr : relB is ask ts with
  | false =>
    have HR := hid hr
    rw [hr] at CO
    clear hr
    go_enter Tryz.func8, Tryz.ntmps8
    go_wp2_with (go_at_call 27; rw [← HW1.out]; rw [← HW2.out]; refine (CO.out _ (HFa.out.on HB0_2.out) (HFb.out.on HB0_2.out) (HFc.out.on HB0_2.out) (tab_on HTAB.out hG HB0_2.out) (Nat.lt_of_lt_of_le hG HB0_2.out.size)).mono ?_; rintro e w3 ⟨m1, m2, m3, rfl, hb3, _⟩; refine Hid.out ?_)
    refine hid ?_
    clear HVV_1
    have hz3 := hb3.size
    have HB0_3 := hid (HB0_2.out.trans (hb3.mono HB0_2.out.size))
    have HVV_3 := hid ((hb3.block _ (by omega)).trans HVV_2.out)
    have HVZ_3 := hid ((hb3.block _ (by omega)).trans HVZ_2.out)
    clear HB0_2 HVV_2 HVZ_2
    clear hb3
    obtain ⟨z0, z1, z2⟩ := three_refs HVZ_3.out
    have f0 := st_thaw HVZ_3.out 0
    have f1 := st_thaw HVZ_3.out 1
    have f2 := st_thaw HVZ_3.out 2
    have hq : w.heap.size + 1 < w3.heap.size := by omega
    go_wp2
    exact bodyPost_ret (v := .tuple #[.agg #[.slice none 0 0, .slice none 0 0, .slice none 0 0], .int .i64 1]) (by simp [results, Tryz.results8, go_sem, z0, z1, z2, hq]) rfl (acc_no HR.out rfl (below_acc_al HB0_3.out (Nat.le_succ _) _ _ _ _))
  | true =>
    have HR := hid hr
    rw [hr] at CO
    have HPT := hid (rel_parts hr)
    clear hr
    go_enter Tryz.func8, Tryz.ntmps8
    go_wp2_with (go_at_call 27; rw [← HW1.out]; rw [← HW2.out]; refine (CO.out _ (HFa.out.on HB0_2.out) (HFb.out.on HB0_2.out) (HFc.out.on HB0_2.out) (tab_on HTAB.out hG HB0_2.out) (Nat.lt_of_lt_of_le hG HB0_2.out.size)).mono ?_; rintro e w3 ⟨m1, m2, m3, rfl, hb3, hm⟩; refine Hid.out ?_)
    refine hid ?_
    clear HVV_1
    have hz3 := hb3.size
    have HB0_3 := hid (HB0_2.out.trans (hb3.mono HB0_2.out.size))
    have HVV_3 := hid ((hb3.block _ (by omega)).trans HVV_2.out)
    have HVZ_3 := hid ((hb3.block _ (by omega)).trans HVZ_2.out)
    clear HB0_2 HVV_2 HVZ_2
    clear hb3
    obtain ⟨s1, s2, s3, rfl, rfl, rfl, ⟨l1, l2, l3⟩, o1, o2, o3⟩ := hm (by first | rfl | trivial)
    clear hm
    have HO1 := hid o1
    have HO2 := hid o2
    have HO3 := hid o3
    have hs3 : s3 < w3.heap.size := o3.lt
    clear o1 o2 o3
    obtain ⟨w4, hw4⟩ : ∃ W, W = w3.alloc (.cells #[.map (some s1), .map (some s2), .map (some s3)] 51) := ⟨_, rfl⟩
    have hb4 : Below w3.heap.size w3 w4 := by rw [hw4]; exact (Below.refl _ _).alloc (Nat.le_refl _) _
    have hz4 : w3.heap.size < w4.heap.size := by rw [hw4]; simp
    have HVK_4 : Hid (w4.heap[w3.heap.size]? = some (.cells #[.map (some s1), .map (some s2), .map (some s3)] 51)) := hid (by rw [hw4]; exact heap_alloc_new _ _)
    have HW4 := hid hw4
    have HB0_4 := hid (HB0_3.out.trans (hb4.mono HB0_3.out.size))
    have HVV_4 := hid ((hb4.block _ (by omega)).trans HVV_3.out)
    have HVZ_4 := hid ((hb4.block _ (by omega)).trans HVZ_3.out)
    clear HB0_3
    clear hw4 hb4
    have hbK : Below w3.heap.size w3 w4 := by rw [HW4.out]; exact (Below.refl _ _).alloc (Nat.le_refl _) _
    have P1 := hid (HO1.out.kept (grown_below (row := none) hbK) (by simp))
    have P2 := hid (HO2.out.kept (grown_below (row := none) hbK) (by simp))
    have P3 := hid (HO3.out.kept (grown_below (row := none) hbK) (by simp))
    clear hbK HO1 HO2 HO3
    have CA := hid (acc_book is ask ts t x name boots hx HR.out s1 s2 s3 l2 l3 w4 P1.out P2.out P3.out (tab_on HTAB.out hG HB0_4.out) (Nat.lt_of_lt_of_le hG HB0_4.out.size) (Num.tab_stays HB0_4.out HPW.out))
    have HYES := hid (fun e w' v1 v2 v3 he hb ho => acc_yes (is := is) (ask := ask) (ts := ts) (x := x) (name := name) (boots := boots) (t := t) (w := w) (w' := w') (e := e) (v1 := v1) (v2 := v2) (v3 := v3) HR.out he hb ho)
    have HQR := hid (acc2_rising (is := is) (ts := ts) (x := x) (name := name) (boots := boots) (t := t) HPT.out.2.1.2)
    have HTR := hid (acc3_rising (is := is) (ask := ask) (x := x) (name := name) (boots := boots) (t := t) HPT.out.2.2.2)
    generalize accL is ask ts x name boots t = r at *
    generalize acc2 is ask ts x name boots t = aq at *
    generalize acc3 is ask ts x name boots t = tq at *
    go_wp2_with (go_at_call 28; rw [← HW4.out]; refine CA.out.mono ?_; rintro e w5 ⟨rfl, ⟨wm, hgA, hgB⟩, n9, D9, n8, D8, o1, o2, o3, hz9, hh9, hz8, hh8⟩; refine Hid.out ?_)
    refine hid ?_
    have hzm := hgA.size
    have hz5m := hgB.size
    have hz5 : w4.heap.size ≤ w5.heap.size := Nat.le_trans hzm hz5m
    have HB5 := hid ((HB0_4.out.trans (grown_to hgA HB0_4.out.size (fun k hk => by cases hk; omega))).trans (grown_to hgB (Nat.le_trans HB0_4.out.size hzm) (fun k hk => by cases hk; omega)))
    have HVZ_5 := hid ((hgB.block (w.heap.size + 1) (by omega) (fun e => by have e2 := Option.some.inj e; omega)).trans ((hgA.block (w.heap.size + 1) (by omega) (fun e => by have e2 := Option.some.inj e; omega)).trans HVZ_4.out))
    have HVK_5 := hid ((hgB.block w3.heap.size (by omega) (fun e => by have e2 := Option.some.inj e; omega)).trans ((hgA.block w3.heap.size (by omega) (fun e => by have e2 := Option.some.inj e; omega)).trans HVK_4.out))
    have CT := hid (relying_calls (setD is) D9 D8 _ _ _ s1 s2 s3 _ _ _ w5 o1 o2 o3 (by rw [size_setD HPT.out.1.2]; have := HPT.out.1.1; omega) hz9 hz8 is aq tq HPT.out.1.2 HQR.out HTR.out (set_has is) hh9 hh8)
    clear hgA hgB o1 o2 o3 hz9 hh9 hz8 hh8 HVZ_4 HVK_4 hzm hz5m
    obtain ⟨k0, k1, k2⟩ := three_refs HVK_5.out
    go_wp2_with (go_at_call 29; refine CT.out.mono ?_; rintro e w6 ⟨v1, v2, v3, rfl, hb6, r1, r2, r3, d12, d13, d23⟩; refine Hid.out ?_)
    refine hid ?_
    clear k0 k1 k2
    obtain ⟨q1, e1, rfl⟩ := touch_slice r1
    obtain ⟨q2, e2, rfl⟩ := touch_slice r2
    obtain ⟨q3, e3, rfl⟩ := touch_slice r3
    have HVZ_6 := hid ((hb6.block (w.heap.size + 1) (by omega)).trans HVZ_5.out)
    have HB6 := hid (HB5.out.trans (hb6.mono HB5.out.size))
    have HS6 := hid (show w.heap.size + 1 < w5.heap.size by omega)
    have R1 := hid r1
    have R2 := hid r2
    have R3 := hid r3
    have HD := hid (And.intro d12 (And.intro d13 d23))
    clear r1 r2 r3 d12 d13 d23 hb6
    obtain ⟨z0, z1, z2⟩ := three_refs HVZ_6.out
    have f0 := st_thaw HVZ_6.out 0
    have f1 := st_thaw HVZ_6.out 1
    have f2 := st_thaw HVZ_6.out 2
    go_wp2
    exact bodyPost_ret (v := .tuple #[.agg #[.slice q1 is.length e1, .slice q2 aq.length e2, .slice q3 tq.length e3], .int .i64 r]) (by simp [results, Tryz.results8, go_sem, z0, z1, z2]) rfl
      (HYES.out _ _ _ _ _ rfl (below_three HB6.out (Nat.le_succ _) _ _ _) ⟨own_base (own_at R1.out HS6.out (step_three _ _ _ _ _)) HB5.out.size, own_base (own_at R2.out HS6.out (step_three _ _ _ _ _)) HB5.out.size, own_base (own_at R3.out HS6.out (step_three _ _ _ _ _)) HB5.out.size, ApartV.of_lt HD.out.1, ApartV.of_lt HD.out.2.1, ApartV.of_lt HD.out.2.2⟩)
end Go.Proofs.YtjaaplcgphlccaaGreatDoor
