/- FnMarked, walked: it answers true. -/
import Derived.Test.YtpecdbgbiecdgaaDrawLaw
import Derived.Test.YtpecdbgbiecdgaaDrawFloats
import Derived.Test.YtpecdbgbiecdgaaFreshPlain
namespace Go.Proofs.Ytpecdbgbiecdgaa
open Go.RowKit
open Go.Lib (hid)

set_option maxRecDepth 20000 in
set_option maxHeartbeats 2000000 in
theorem drawn_marked (w : World) (q : Option Addr) (n c : Nat) (hn : n ≤ 1048576) (hq : TBytes w q n) :
    Calls Try.prog 55 #[.slice q n c] w fun e w' => ∃ (v : Value) (l : List Nat) (x y : Nat), e = .returned (.tuple #[v, .float .f64 x, .float .f64 y]) ∧ l.length ≤ 101 ∧ RowFl w' v l ∧ Below w.heap.size w w' := by
  have HQ := hid hq
  clear hq
  go_enter Try.func55, Try.ntmps55
  go_wp2_with (go_at_call 89; refine (d_open _ q n c hn HQ.out).mono ?_; rintro e w1 ⟨rfl, hr1, hb1⟩; refine Hid.out ?_)
  refine hid ?_
  have HR1 := hid hr1
  have HB1 := hid hb1
  clear hr1 hb1
  have hbw : w.heap.size < w1.heap.size := HR1.out.here
  go_wp2_with (go_at_call 105; refine (d_floats 8 (by omega) (by omega) _ _ _ _ _ HR1.out).mono ?_; unfold DrawnFloats; rintro e w2 ⟨v, l, rfl, hl, hg⟩; refine Hid.out ?_)
  refine hid ?_
  have HG2 := hid hg
  have HB2 := hid (step_tail HB1.out hg.step (Nat.le_refl _))
  clear hg HB1 HR1
  go_wp2_with (go_at_call 96; refine (nearF (-5) 5 (by omega) (by omega) (by omega) _ _ _ _ _ HG2.out.reader (by omega) (by omega)).mono ?_; rintro e w3 ⟨z, rfl, hz0, hz1, hr3, hs3⟩; refine Hid.out ?_)
  refine hid ?_
  have HG3 := hid (HG2.out.call hbw hr3 hs3)
  have HB3 := hid (step_tail HB2.out hs3 (Nat.le_refl _))
  clear hr3 hs3 HB2 HG2
  go_wp2_with (go_at_call 93; refine (d_below 6 (by omega) _ _ _ _ _ HG3.out.reader).mono ?_; rintro e w4 ⟨u, rfl, ⟨hu0, hu1⟩, hr4, hs4⟩; refine Hid.out ?_)
  refine hid ?_
  have HG4 := hid (HG3.out.call hbw hr4 hs4)
  have HB4 := hid (step_tail HB3.out hs4 (Nat.le_refl _))
  clear hr4 hs4 HB3 HG3 hu1
  go_wp2
  exact bodyPost_ret (v := .tuple #[v, .float .f64 (floatOfInt .f64 z), .float .f64 (floatOfInt .f64 u)]) (by simp [results, Try.results55, go_sem]) rfl ⟨_, _, _, _, rfl, hl, row_fl_own HG4.out.own, HB4.out⟩

theorem same_ints (l : List Int) (hn : l.length ≤ 1000000000) (a b : Value) (w : World) (ha : RowIn w a l) (hb : RowIn w b l) :
    Calls Try.prog 58 #[a, b] w fun e w' => e = .returned (.bool true) ∧ Below w.heap.size w w' := by
  obtain ⟨p, c, rfl, _, hp⟩ := ha
  obtain ⟨q, e, rfl, _, hq⟩ := hb
  have HP := hid hp
  have HQ := hid hq
  clear hp hq
  go_enter Try.func58, Try.ntmps58
  go_wp2
  go_loopw [5] (fun iv wr => ∃ i : Nat, i ≤ l.length ∧ iv = .int .i64 i ∧ Below w.heap.size w wr) (fun iv _ => l.length - (RowKit.intOf iv).toNat)
  case atStart => exact ⟨0, Nat.zero_le _, rfl, Below.refl _ _⟩
  case round =>
    obtain ⟨i, hi, rfl, hbel⟩ := hrel
    by_cases hlt : i < l.length
    · have hne : l ≠ [] := fun h => by rw [h] at hlt; cases hlt
      obtain ⟨g, o, rfl, hg, hc⟩ := HP.out hne
      obtain ⟨g2, o2, rfl, hg2, hc2⟩ := HQ.out hne
      have hc1 := hc i hlt
      have hc3 := hc2 i hlt
      rw [← hbel.cell (p := ⟨g, o + i, none⟩) hg] at hc1
      rw [← hbel.cell (p := ⟨g2, o2 + i, none⟩) hg2] at hc3
      clear hc hc2
      generalize l[i] = x at *
      have b1 : (0 : Int) ≤ (i : Int) := by omega
      have b2 : (i : Int) < (l.length : Int) := by omega
      go_wp2
      go_quiet (fail)
      go_wp2
      go_roundw
      case rel => exact ⟨i + 1, by omega, by go_num, drewN_below hbel _⟩
      case measure => simp [RowKit.intOf]; omega
    · have hie : i = l.length := by omega
      subst hie
      go_wp2
      go_ret
      exact ⟨rfl, hbel⟩

set_option maxRecDepth 20000 in
set_option maxHeartbeats 4000000 in
theorem law_fnmarked (w : World) (q : Option Addr) (n c : Nat) (hq : TBytes w q n) :
    Calls Try.prog 12 #[.slice q n c] w fun e w' => e = .returned (.bool true) ∧ Below w.heap.size w w' := by
  have HQ := hid hq
  clear hq
  by_cases hn : n ≤ 1048576
  · have hd : decide ((n : Int) > 1048576) = false := decide_eq_false (by omega)
    have CB := hid (fun W => big_callsF q n c W)
    rw [hd] at CB
    clear hd
    go_enter Try.func12, Try.ntmps12
    go_wp2_with (go_at_call 30; refine (CB.out _).mono ?_; rintro e wq ⟨rfl, eq⟩; rw [eq]; clear eq wq; refine Hid.out ?_)
    refine hid ?_
    go_wp2_with (go_at_call 55; refine (drawn_marked _ q n c hn HQ.out).mono ?_; rintro e w1 ⟨v, l, now, most, rfl, hl, hrow, hb1⟩; refine Hid.out ?_)
    refine hid ?_
    have HB1 := hid hb1
    have HV1 := hid hrow
    clear hb1 hrow CB HQ
    go_wp2_with (go_at_call 56; refine (marked_spec l (by omega) now most _ _ HV1.out).mono ?_; unfold MrkPost; rintro e w2 ⟨sv, rfl, hb2, ho2⟩; refine Hid.out ?_)
    refine hid ?_
    have HB2 := hid (HB1.out.trans (hb2.mono HB1.out.size))
    have HV2 := hid (HV1.out.on hb2)
    have HW2 := hid (row_in_own ho2)
    clear hb2 ho2 HB1 HV1
    go_wp2_with (go_at_call 57; refine (marked_impl l (by omega) now most _ _ HV2.out).mono ?_; unfold MrkPost; rintro e w3 ⟨gv, rfl, hb3, ho3⟩; refine Hid.out ?_)
    refine hid ?_
    have HB3 := hid (HB2.out.trans (hb3.mono HB2.out.size))
    have HV3 := hid (HV2.out.on hb3)
    have HW3 := hid (HW2.out.on hb3)
    have HG3 := hid (row_in_own ho3)
    clear hb3 ho3 HB2 HV2 HW2
    have hfew := mrkOut_few l now most
    go_wp2_with (go_at_call 58; refine (same_ints (mrkOut l now most) (by omega) _ _ _ HG3.out HW3.out).mono ?_; rintro e w4 ⟨rfl, hb4⟩; refine Hid.out ?_)
    refine hid ?_
    have HB4 := hid (HB3.out.trans (hb4.mono HB3.out.size))
    have HV4 := hid (HV3.out.on hb4)
    have HG4 := hid (HG3.out.on hb4)
    clear hb4 HB3 HV3 HG3 HW3
    obtain ⟨p, cp, rfl, _, hp⟩ := HV4.out
    obtain ⟨g, cg, rfl, _, hg⟩ := HG4.out
    have HP := hid hp
    have HGG := hid hg
    clear hp hg HV4 HG4
    by_cases h100 : l.length ≤ 100
    · have HO : Hid (mrkOut l now most = mrkTo l now most l.length) := hid (by unfold mrkOut; rw [if_pos h100])
      have HAT := hid (fun i (hi : i < l.length) hf => mrk_at l now most hi hf)
      go_wp2
      go_loopw [8, 9] (fun nv iv wr => ∃ i : Nat, i ≤ l.length ∧ iv = .int .i64 i ∧ nv = .int .i64 (mrkTo l now most i).length ∧ Hid (Below w4.heap.size w4 wr)) (fun _ iv _ => l.length - (RowKit.intOf iv).toNat)
      case atStart => exact ⟨0, Nat.zero_le _, rfl, rfl, hid (Below.refl _ _)⟩
      case round =>
        obtain ⟨i, hi, rfl, rfl, HB⟩ := hrel
        by_cases hlt : i < l.length
        · have hne : l ≠ [] := fun h => by rw [h] at hlt; cases hlt
          obtain ⟨a, o, rfl, ha, hc⟩ := HP.out hne
          have b1 : (0 : Int) ≤ (i : Int) := by omega
          have b2 : (i : Int) < (l.length : Int) := by omega
          have k1 : wr.cell? ⟨a, o + i, none⟩ = some (.float .f64 l[i]) := (HB.out.cell (p := ⟨a, o + i, none⟩) ha).trans (hc i hlt)
          have HK : Hid (∀ W, Below wr.heap.size wr W → W.cell? ⟨a, o + i, none⟩ = some (.float .f64 l[i])) := hid (fun W hW => (hW.cell (p := ⟨a, o + i, none⟩) (Nat.lt_of_lt_of_le ha HB.out.size)).trans k1)
          have HD : Hid (l.getD i 0 = l[i]) := hid (by simp [List.getD, hlt])
          have CF := hid (fun W => fresh_impl l[i] now most W)
          clear hc
          cases hf : freshB l[i] now most with
          | true =>
            rw [hf] at CF
            have hpast := fresh_past hf
            have HC := hid (mrkTo_no (l := l) (now := now) (most := most) (i := i) (by rw [HD.out]; exact hf))
            clear hf HAT
            generalize l[i] = x at *
            go_wp2_with (go_at_call 59; refine (CF.out _).mono ?_; rintro e w5 ⟨rfl, hb5⟩; have k5 := HK.out _ hb5; have HB5 := hid (HB.out.trans (hb5.mono HB.out.size)); clear hb5 k1)
            go_roundw
            case rel => exact ⟨i + 1, by omega, by go_num, by rw [HC.out], HB5⟩
            case measure => simp [RowKit.intOf]; omega
          | false =>
            rw [hf] at CF
            have HC := hid (mrkTo_yes (l := l) (now := now) (most := most) (i := i) (by rw [HD.out]; exact hf))
            have hat := HAT.out i hlt (by rw [HD.out]; exact hf)
            rw [← HO.out] at hat
            obtain ⟨hnl, hat2⟩ := List.getElem?_eq_some_iff.1 hat
            have hne2 : mrkOut l now most ≠ [] := fun h => by rw [h] at hnl; cases hnl
            obtain ⟨a2, o2, rfl, ha2, hc2⟩ := HGG.out hne2
            have k2 := hc2 _ hnl
            rw [hat2] at k2
            have HK2 : Hid (∀ W, Below wr.heap.size wr W → W.cell? ⟨a2, o2 + (mrkTo l now most i).length, none⟩ = some (.int .i64 i)) := hid (fun W hW => (hW.cell (p := ⟨a2, o2 + (mrkTo l now most i).length, none⟩) (Nat.lt_of_lt_of_le ha2 HB.out.size)).trans ((HB.out.cell (p := ⟨a2, o2 + (mrkTo l now most i).length, none⟩) ha2).trans k2))
            have HLen : Hid ((mrkTo l now most (i + 1)).length = (mrkTo l now most i).length + 1) := hid (by rw [HC.out]; simp)
            have t0 : (0 : Int) ≤ ((mrkTo l now most i).length : Int) := by omega
            have t1 : ((mrkTo l now most i).length : Int) < ((mrkOut l now most).length : Int) := by omega
            clear hf HAT hc2 k2 hat hat2 hne2 HC hnl
            generalize (mrkTo l now most i).length = z at *
            generalize l[i] = x at *
            go_wp2_with (go_at_call 59; refine (CF.out _).mono ?_; rintro e w5 ⟨rfl, hb5⟩; have k5 := HK.out _ hb5; have k6 := HK2.out _ hb5; have HB5 := hid (HB.out.trans (hb5.mono HB.out.size)); clear hb5 k1)
            go_roundw
            case rel => exact ⟨i + 1, by omega, by go_num, by rw [HLen.out]; go_num, HB5⟩
            case measure => simp [RowKit.intOf]; omega
        · have hie : i = l.length := by omega
          subst hie
          have HE : Hid ((mrkTo l now most l.length).length = (mrkOut l now most).length) := hid (by rw [HO.out])
          go_wp2
          go_ret
          exact ⟨by rw [HE.out]; simp, HB4.out.trans (HB.out.mono HB4.out.size)⟩
    · have HO : Hid ((mrkOut l now most).length = 0) := hid (by unfold mrkOut; rw [if_neg h100]; rfl)
      rw [HO.out]
      go_wp2
      go_loopw [8, 9] (fun nv iv wr => iv = .int .i64 0 ∧ nv = .int .i64 0 ∧ wr = w4) (fun _ _ _ => 0)
      case atStart => exact ⟨rfl, rfl, rfl⟩
      case round =>
        obtain ⟨rfl, rfl, rfl⟩ := hrel
        go_wp2
        go_ret
        exact ⟨rfl, HB4.out⟩
  · have hd : decide ((n : Int) > 1048576) = true := decide_eq_true (by omega)
    go_enter Try.func12, Try.ntmps12
    go_wp2_with (go_at_call 30; refine (big_callsF q n c _).mono ?_; rintro e wq ⟨rfl, eq⟩; rw [eq, hd]; clear eq wq)
    go_ret
    exact ⟨rfl, Below.refl _ _⟩
end Go.Proofs.Ytpecdbgbiecdgaa
