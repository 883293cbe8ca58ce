/- A token accepted: the program's book. -/
import Derived.Test.YtjaaplcgphlccaaGreatDoorAccPlain
import Derived.Test.YtjaaplcgphlccaaGreatDoorSetHas
import Derived.Test.YtjaaplcgphlccaaGreatDoorRelBoth
import Derived.Test.YtjaaplcgphlccaaGreatDoorMakeImpl
import Derived.Test.YtjaaplcgphlccaaGreatDoorImplFace
import Derived.BigQuiet
import Derived.Deep.RegionHeld3
namespace Go.Proofs.YtjaaplcgphlccaaGreatDoor
open Go.RowKit Go.WideMaps Go.Maps
open Go.Lib (hid)

theorem acc_hop {B : Nat} {a b c : World} (h : Below B a b) (hB : B ≤ a.heap.size) (k : Below b.heap.size b c) : Below B a c := h.trans (k.mono (Nat.le_trans hB h.size))

theorem acc_drewN {b : Nat} {w w' : World} (h : Below b w w') : ∀ k, Below b w (w'.drewN k)
  | 0 => h
  | k + 1 => (acc_drewN h k).drew

theorem acc_deep {s : ByteArray} (h : (nodeOf s).1 ≠ 0) : nodeOf s = kindS 40 s.data.toList := by
  unfold nodeOf at h ⊢
  split at h
  · rw [if_pos ‹_›]
  · exact absurd rfl h

theorem acc_sign_parts {s : ByteArray} (h : (nodeOf s).1 = 5) : ∃ p m, nodeOf s = (5, [p, m]) := by
  obtain ⟨k, ps, hn⟩ : ∃ k ps, nodeOf s = (k, ps) := ⟨_, _, rfl⟩
  rw [hn] at h
  dsimp only at h
  subst h
  obtain ⟨_, hsh⟩ := node_brk hn (by omega)
  have hlen : ps.length = 2 := by
    unfold shapeB at hsh
    simp only [Bool.and_eq_true, decide_eq_true_eq] at hsh
    have := hsh.1
    rw [show leastOf 5 = 2 from rfl, show mostOf 5 = 2 from rfl] at this
    omega
  match ps, hlen with
  | [p, m], _ => exact ⟨p, m, hn⟩

set_option maxRecDepth 20000 in
theorem acc_read_sign (s : ByteArray) (p m : List UInt8) (h : nodeOf s = (5, [p, m])) (w : World) (hT : Tab w) (hG : 0 < w.heap.size) :
    Calls Tryz.prog 43 #[.string s] w fun e w' => ∃ g c t, e = .returned (.tuple #[.agg #[.int .i64 5, .string t, .slice (some ⟨g, 0, none⟩) 2 c], .bool true]) ∧ Below w.heap.size w w' ∧ g < w'.heap.size ∧ w'.cell? ⟨g, 1, none⟩ = some (.string (bytesOf p)) := by
  have h0 : (nodeOf s).1 ≠ 0 := by rw [h]; show (5 : Nat) ≠ 0; decide
  refine (read_well s w hT hG h0).mono fun e w' ⟨v, he, hr, hb⟩ => ?_
  have hno : nodeOf s = kindS 40 s.data.toList := by
    unfold nodeOf at h0 ⊢
    split at h0
    · rw [if_pos ‹_›]
    · exact absurd rfl h0
  rw [h] at hno
  obtain ⟨sv, hv, hrow⟩ := hr
  rw [show 39 + 1 = 40 from rfl, ← hno] at hrow hv
  subst hv
  rcases hrow with ⟨hnil, _⟩ | ⟨g, cap, rfl, hS, hcells⟩
  · cases hnil
  · obtain ⟨c0, c1, c2, _, h1, _, hr2⟩ := hcells 0 (by simp)
    obtain ⟨sv2, e2, _⟩ := hr2.shape
    have e3 : c1 = .string ⟨p.toArray⟩ := by
      injection e2 with e2
      simp at e2
      exact e2.2.1
    refine ⟨g, cap, _, he, hb, hS.2, ?_⟩
    rw [show (0 : Nat) * 3 + 1 = 1 from rfl] at h1
    rw [h1, e3]
    rfl

set_option maxRecDepth 20000 in
set_option maxHeartbeats 4000000 in
theorem publicOf_calls (s : ByteArray) (w : World) (hT : Tab w) (hG : 0 < w.heap.size) :
    Calls Tryz.prog 77 #[.string s] w fun e w' => e = .returned (.string (bytesOf (pubL s.data.toList))) ∧ Below w.heap.size w w' := by
  obtain ⟨w1, hw1⟩ : ∃ W, W = w.alloc (.cells #[.string s] 9) := ⟨_, rfl⟩
  have HB1 : Hid (Below w.heap.size w w1) := hid (by rw [hw1]; exact (Below.refl _ _).alloc (Nat.le_refl _) _)
  have HX : TextsAt w1 (.slice (some ⟨w.heap.size, 0, none⟩) 1 1) [s.data.toList] := ⟨_, 1, rfl, fun _ => ⟨w.heap.size, rfl, by rw [hw1]; simp, fun j hj => by
    have hj0 : j = 0 := by simp at hj; omega
    subst hj0
    rw [hw1, cell_of_row _ _ _ _ _ _ (heap_alloc_new w _)]
    rfl⟩⟩
  have CM := hid (make_impl 6 [s.data.toList] (some ⟨w.heap.size, 0, none⟩) 1 (by simp) w1 HX (tab_on hT hG HB1.out) (Nat.lt_of_lt_of_le hG HB1.out.size))
  unfold MadeOut at CM
  have HPL : Hid (bytesOf (pubL s.data.toList) = if madeB 6 [s.data.toList] = true then bytesOf (tmWith 6 [s.data.toList]) else ⟨#[]⟩) := hid (by unfold pubL; split <;> rfl)
  have HW1 := hid hw1
  clear hT HX hw1
  rw [show ((6 : Int).toNat) = 6 from rfl] at CM
  generalize bytesOf (pubL s.data.toList) = P at *
  generalize bytesOf (tmWith 6 [s.data.toList]) = Q at *
  cases hb : madeB 6 [s.data.toList] with
  | false =>
    rw [hb] at CM HPL
    clear hb
    go_enter Tryz.func77, Tryz.ntmps77
    go_wp2_with (go_at_call 86; rw [← HW1.out]; refine CM.out.mono ?_; rintro e w2 ⟨rfl, hb2⟩; refine Hid.out ?_)
    refine hid ?_
    have HB2 := hid (HB1.out.trans (hb2.mono HB1.out.size))
    clear hb2
    go_wp2
    go_ret
    exact ⟨by rw [HPL.out] <;> rfl, HB2.out⟩
  | true =>
    rw [hb] at CM HPL
    clear hb
    go_enter Tryz.func77, Tryz.ntmps77
    go_wp2_with (go_at_call 86; rw [← HW1.out]; refine CM.out.mono ?_; rintro e w2 ⟨rfl, hb2⟩; refine Hid.out ?_)
    refine hid ?_
    have HB2 := hid (HB1.out.trans (hb2.mono HB1.out.size))
    clear hb2
    go_wp2
    go_ret
    exact ⟨by rw [HPL.out] <;> rfl, HB2.out⟩

set_option maxRecDepth 20000 in
set_option maxHeartbeats 4000000 in
theorem sig_calls (is : List (List UInt8)) (s1 s2 s3 n1 : Nat) (t x name : ByteArray) (boots : Int) (w : World) (o1 : w.ownsMap Tryz.prog 9 (unitElem (H := Unit)) s1 n1 (setD is)) (hT : Tab w) (hG : 0 < w.heap.size) (hP : Lib.TabIs Tryz.prog w "internal/strconv.uint64pow10" .u64 Lib.pow10Tab) :
    Calls Tryz.prog 54 #[.agg #[.map (some s1), .map (some s2), .map (some s3)], .string t, .string x, .string name, .int .i64 boots] w fun e w' => e = .returned (.bool (sigA is x.data.toList name boots t.data.toList)) ∧ Below w.heap.size w w' := by
  have HTAB := hid hT
  have HPW := hid hP
  have HS : Hid (sigA is x.data.toList name boots t.data.toList = (decide ((nodeOf (bytesOf t.data.toList)).1 = 5) && (tokIs (partOf t.data.toList) x.data.toList name boots t.data.toList && decide (pubL (partOf t.data.toList) ∈ is)))) := hid rfl
  rw [set_bytes t] at HS
  generalize sigA is x.data.toList name boots t.data.toList = r at *
  have HM1 := hid (fun W (hB : Below w.heap.size w W) => o1.kept (grown_below (row := none) hB) (by simp))
  clear o1 hT hP
  have HB0_0 : Hid (Below w.heap.size w w) := hid (Below.refl _ _)
  have hz0 : w.heap.size ≤ w.heap.size := Nat.le_refl _
  obtain ⟨w1, hw1⟩ : ∃ W, W = w.alloc (.cells #[.map (some s1), .map (some s2), .map (some s3)] 51) := ⟨_, rfl⟩
  have hb1 : Below w.heap.size w w1 := by rw [hw1]; exact (Below.refl _ _).alloc (Nat.le_refl _) _
  have hz1 : w.heap.size < w1.heap.size := by rw [hw1]; simp
  have HVB_1 : Hid (w1.heap[w.heap.size]? = some (.cells #[.map (some s1), .map (some s2), .map (some s3)] 51)) := hid (by rw [hw1]; exact heap_alloc_new _ _)
  have HW1 := hid hw1
  have HB0_1 := hid (HB0_0.out.trans (hb1.mono HB0_0.out.size))
  clear hw1 hb1
  by_cases h5 : (nodeOf t).1 = 5
  · rw [decide_eq_true h5, Bool.true_and] at HS
    obtain ⟨p, m, hn⟩ := acc_sign_parts h5
    have hp : partOf t.data.toList = p := by unfold partOf; rw [set_bytes t, hn]; rfl
    rw [hp] at HS
    have CR := hid (fun W hT hG => acc_read_sign t p m hn W hT hG)
    clear hn h5 hp
    have CK := hid (fun W hT hG hP => token_impl (bytesOf p) x name boots W hT hG hP)
    have CPB := hid (fun W hT hG => publicOf_calls (bytesOf p) W hT hG)
    rw [bytesOf_list] at CK CPB
    unfold MadeOut at CK
    have CH := hid (fun W hB => shas_calls (setD (H := Unit) is) s1 n1 (bytesOf (pubL p)) W (by rw [bytesOf_size]; unfold maxLen; have := pub_size p; omega) (HM1.out W hB))
    rw [bytesOf_list] at CH
    have HTI : Hid (tokIs p x.data.toList name boots t.data.toList = ((tokO p x.data.toList name boots).1 && decide ((tokO p x.data.toList name boots).2 = t.data.toList))) := hid rfl
    rw [HTI.out] at HS
    clear HTI
    have HEQ := hid (fun l => acc_test l t)
    generalize (tokO p x.data.toList name boots).2 = tl at *
    generalize (tokO p x.data.toList name boots).1 = tb at *
    have HHS : Hid (Maps.has (setD (H := Unit) is) (.string (pubL p)) = decide (pubL p ∈ is)) := hid (by rw [Bool.eq_iff_iff, set_has, decide_eq_true_iff])
    rw [HHS.out] at CH
    clear HHS
    generalize decide (pubL p ∈ is) = hb at *
    generalize bytesOf (pubL p) = PB at *
    cases tb with
    | false =>
      have HZ : Hid (r = false) := hid (by rw [HS.out, Bool.false_and, Bool.false_and])
      clear HS
      rw [if_neg Bool.false_ne_true] at CK
      go_enter Tryz.func54, Tryz.ntmps54
      go_wp2_with (go_at_call 43; rw [← HW1.out]; refine (CR.out _ (tab_on HTAB.out hG HB0_1.out) (Nat.lt_of_lt_of_le hG HB0_1.out.size)).mono ?_; rintro e w2 ⟨g, c, ti, rfl, hb2, hg2, kg2⟩; refine Hid.out ?_)
      refine hid ?_
      have hz2 := hb2.size
      have HB0_2 := hid (HB0_1.out.trans (hb2.mono HB0_1.out.size))
      have HVB_2 := hid ((hb2.block _ (by omega)).trans HVB_1.out)
      have KG := hid kg2
      clear hb2 kg2 HVB_1
      obtain ⟨w3, hw3⟩ : ∃ W, W = w2.alloc (.cells #[.int .i64 5, .string ti, .slice (some ⟨g, 0, none⟩) 2 c] 67) := ⟨_, rfl⟩
      have hb3 : Below w2.heap.size w2 w3 := by rw [hw3]; exact (Below.refl _ _).alloc (Nat.le_refl _) _
      have hz3 : w2.heap.size < w3.heap.size := by rw [hw3]; simp
      have HB0_3 := hid (HB0_2.out.trans (hb3.mono HB0_2.out.size))
      have HVB_3 := hid ((hb3.block _ (by omega)).trans HVB_2.out)
      have kg := (hb3.cell (p := ⟨g, 1, none⟩) hg2).trans KG.out
      have HW3 := hid hw3
      rw [hw3] at kg
      clear hw3 hb3
      go_wp2_with (go_at_call 76; rw [← HW3.out]; refine (CK.out _ (tab_on HTAB.out hG HB0_3.out) (Nat.lt_of_lt_of_le hG HB0_3.out.size) (Num.tab_stays HB0_3.out HPW.out)).mono ?_; rintro e w4 ⟨rfl, hb4⟩; refine Hid.out ?_)
      refine hid ?_
      clear kg
      have hz4 := hb4.size
      have HB0_4 := hid (HB0_3.out.trans (hb4.mono HB0_3.out.size))
      have HVB_4 := hid ((hb4.block _ (by omega)).trans HVB_3.out)
      clear hb4 HVB_3
      go_wp2
      go_quiet (fail)
      go_wp2
      go_ret
      exact ⟨by rw [HZ.out] <;> rfl, acc_drewN HB0_4.out _⟩
    | true =>
      rw [if_pos rfl] at CK
      rw [Bool.true_and] at HS
      have hte := HEQ.out tl
      generalize bytesOf tl = TL at *
      by_cases hq : tl = t.data.toList
      · rw [decide_eq_true hq] at HS hte
        rw [Bool.true_and] at HS
        clear hq
        go_enter Tryz.func54, Tryz.ntmps54
        go_wp2_with (go_at_call 43; rw [← HW1.out]; refine (CR.out _ (tab_on HTAB.out hG HB0_1.out) (Nat.lt_of_lt_of_le hG HB0_1.out.size)).mono ?_; rintro e w2 ⟨g, c, ti, rfl, hb2, hg2, kg2⟩; refine Hid.out ?_)
        refine hid ?_
        have hz2 := hb2.size
        have HB0_2 := hid (HB0_1.out.trans (hb2.mono HB0_1.out.size))
        have HVB_2 := hid ((hb2.block _ (by omega)).trans HVB_1.out)
        have KG := hid kg2
        clear hb2 kg2 HVB_1
        obtain ⟨w3, hw3⟩ : ∃ W, W = w2.alloc (.cells #[.int .i64 5, .string ti, .slice (some ⟨g, 0, none⟩) 2 c] 67) := ⟨_, rfl⟩
        have hb3 : Below w2.heap.size w2 w3 := by rw [hw3]; exact (Below.refl _ _).alloc (Nat.le_refl _) _
        have hz3 : w2.heap.size < w3.heap.size := by rw [hw3]; simp
        have HB0_3 := hid (HB0_2.out.trans (hb3.mono HB0_2.out.size))
        have HVB_3 := hid ((hb3.block _ (by omega)).trans HVB_2.out)
        have kg := (hb3.cell (p := ⟨g, 1, none⟩) hg2).trans KG.out
        have HW3 := hid hw3
        rw [hw3] at kg
        clear hw3 hb3
        go_wp2_with (go_at_call 76; rw [← HW3.out]; refine (CK.out _ (tab_on HTAB.out hG HB0_3.out) (Nat.lt_of_lt_of_le hG HB0_3.out.size) (Num.tab_stays HB0_3.out HPW.out)).mono ?_; rintro e w4 ⟨rfl, hb4⟩; refine Hid.out ?_)
        refine hid ?_
        clear kg
        have hz4 := hb4.size
        have HB0_4 := hid (HB0_3.out.trans (hb4.mono HB0_3.out.size))
        have HVB_4 := hid ((hb4.block _ (by omega)).trans HVB_3.out)
        clear hb4 HVB_3
        have HS2 := HS
        have CP2 := hid (fun W (h : Below w4.heap.size w4 W) => CPB.out W (tab_on HTAB.out hG (HB0_4.out.trans (h.mono HB0_4.out.size))) (Nat.lt_of_lt_of_le hG (HB0_4.out.trans (h.mono HB0_4.out.size)).size))
        have CH2 := hid (fun W (h : Below w4.heap.size w4 W) => CH.out W (HB0_4.out.trans (h.mono HB0_4.out.size)))
        have HDR : Below w4.heap.size w4 w4.drew := Below.drew (Below.refl _ _)
        have k_B_0 : ∀ W : World, Below w4.heap.size w4 W → W.cell? ⟨_, 0, none⟩ = some (.map (some s1)) := fun W hW => (cell_of_row _ _ 0 _ _ _ ((hW.block _ (by omega)).trans HVB_4.out)).trans rfl
        have k_B_1 : ∀ W : World, Below w4.heap.size w4 W → W.cell? ⟨_, 1, none⟩ = some (.map (some s2)) := fun W hW => (cell_of_row _ _ 1 _ _ _ ((hW.block _ (by omega)).trans HVB_4.out)).trans rfl
        have k_B_2 : ∀ W : World, Below w4.heap.size w4 W → W.cell? ⟨_, 2, none⟩ = some (.map (some s3)) := fun W hW => (cell_of_row _ _ 2 _ _ _ ((hW.block _ (by omega)).trans HVB_4.out)).trans rfl
        go_wp2
        go_region_held3 (fun w' => Below w4.heap.size w4 w') (first | with_reducible assumption | exact Below.drew (Below.refl _ _) | exact acc_hop (by assumption) (by simp) (by assumption)) ((first | (go_at_call 77; refine (CP2.out _ (by assumption)).mono ?_; rintro e x1 ⟨rfl, hy1⟩) | (go_at_call 53; refine (CH2.out _ (by assumption)).mono ?_; rintro e x2 ⟨rfl, hy2⟩) | (fail "no arm")))
        rename_i hS
        have hb5 := hS
        clear k_B_0 k_B_1 k_B_2
        generalize x2 = w5 at *
        clear hS
        have hz5 := hb5.size
        have HB0_5 := hid (HB0_4.out.trans (hb5.mono HB0_4.out.size))
        have HVB_5 := hid ((hb5.block _ (by omega)).trans HVB_4.out)
        clear HB0_4 HVB_4
        clear hb5
        go_wp2
        go_ret
        exact ⟨by rw [HS2.out] <;> rfl, HB0_5.out⟩
      · rw [decide_eq_false hq] at HS hte
        have HZ : Hid (r = false) := hid (by rw [HS.out, Bool.false_and])
        clear hq HS
        go_enter Tryz.func54, Tryz.ntmps54
        go_wp2_with (go_at_call 43; rw [← HW1.out]; refine (CR.out _ (tab_on HTAB.out hG HB0_1.out) (Nat.lt_of_lt_of_le hG HB0_1.out.size)).mono ?_; rintro e w2 ⟨g, c, ti, rfl, hb2, hg2, kg2⟩; refine Hid.out ?_)
        refine hid ?_
        have hz2 := hb2.size
        have HB0_2 := hid (HB0_1.out.trans (hb2.mono HB0_1.out.size))
        have HVB_2 := hid ((hb2.block _ (by omega)).trans HVB_1.out)
        have KG := hid kg2
        clear hb2 kg2 HVB_1
        obtain ⟨w3, hw3⟩ : ∃ W, W = w2.alloc (.cells #[.int .i64 5, .string ti, .slice (some ⟨g, 0, none⟩) 2 c] 67) := ⟨_, rfl⟩
        have hb3 : Below w2.heap.size w2 w3 := by rw [hw3]; exact (Below.refl _ _).alloc (Nat.le_refl _) _
        have hz3 : w2.heap.size < w3.heap.size := by rw [hw3]; simp
        have HB0_3 := hid (HB0_2.out.trans (hb3.mono HB0_2.out.size))
        have HVB_3 := hid ((hb3.block _ (by omega)).trans HVB_2.out)
        have kg := (hb3.cell (p := ⟨g, 1, none⟩) hg2).trans KG.out
        have HW3 := hid hw3
        rw [hw3] at kg
        clear hw3 hb3
        go_wp2_with (go_at_call 76; rw [← HW3.out]; refine (CK.out _ (tab_on HTAB.out hG HB0_3.out) (Nat.lt_of_lt_of_le hG HB0_3.out.size) (Num.tab_stays HB0_3.out HPW.out)).mono ?_; rintro e w4 ⟨rfl, hb4⟩; refine Hid.out ?_)
        refine hid ?_
        clear kg
        have hz4 := hb4.size
        have HB0_4 := hid (HB0_3.out.trans (hb4.mono HB0_3.out.size))
        have HVB_4 := hid ((hb4.block _ (by omega)).trans HVB_3.out)
        clear hb4 HVB_3
        go_wp2
        go_quiet (fail)
        go_wp2
        go_ret
        exact ⟨by rw [HZ.out] <;> rfl, acc_drewN HB0_4.out _⟩
  · rw [decide_eq_false h5, Bool.false_and] at HS
    have HZ : Hid (r = false) := HS
    by_cases h0 : (nodeOf t).1 = 0
    · skip
      have CR := hid (fun W hT hG => read_none t W hT hG h0)
      clear h0 h5
      go_enter Tryz.func54, Tryz.ntmps54
      go_wp2_with (go_at_call 43; rw [← HW1.out]; refine (CR.out _ (tab_on HTAB.out hG HB0_1.out) (Nat.lt_of_lt_of_le hG HB0_1.out.size)).mono ?_; rintro e w2 ⟨rfl, hb2⟩; refine Hid.out ?_)
      refine hid ?_
      have hz2 := hb2.size
      have HB0_2 := hid (HB0_1.out.trans (hb2.mono HB0_1.out.size))
      have HVB_2 := hid ((hb2.block _ (by omega)).trans HVB_1.out)
      clear HB0_1 HVB_1
      clear hb2
      go_wp2
      go_ret
      exact ⟨by rw [HZ.out] <;> rfl, HB0_2.out.alloc HB0_2.out.size _⟩
    · skip
      have CR := hid (fun W hT hG => read_well t W hT hG h0)
      have hno := acc_deep h0
      have h66 : ((kindS 40 t.data.toList).1 : Int) ≠ 5 := by rw [← hno]; omega
      have HK6 : Hid ((((kindS 40 t.data.toList).1 : Nat) : Int) != 5) := hid (by simpa using h66)
      clear h0 h5 hno h66
      go_enter Tryz.func54, Tryz.ntmps54
      go_wp2_with (go_at_call 43; rw [← HW1.out]; refine (CR.out _ (tab_on HTAB.out hG HB0_1.out) (Nat.lt_of_lt_of_le hG HB0_1.out.size)).mono ?_; rintro e w2 ⟨v, rfl, hr1, hb2⟩; refine Hid.out ?_)
      refine hid ?_
      have hz2 := hb2.size
      have HB0_2 := hid (HB0_1.out.trans (hb2.mono HB0_1.out.size))
      have HVB_2 := hid ((hb2.block _ (by omega)).trans HVB_1.out)
      clear HB0_1 HVB_1
      clear hb2
      obtain ⟨sv, rfl, pq, n, c, rfl⟩ := hr1.shape
      clear hr1
      have hk6 := HK6.out
      generalize (kindS 40 t.data.toList).1 = kk at *
      go_wp2
      go_ret
      exact ⟨by rw [HZ.out] <;> rfl, HB0_2.out.alloc HB0_2.out.size _⟩
end Go.Proofs.YtjaaplcgphlccaaGreatDoor
