/- The law FnBootsRise, walked: it answers true. -/
import Derived.Test.YtphabggmbdpibaaDoorRisePlain
import Derived.ProofKit
import Derived.OwnWalk
import Derived.Deep.RegionHeld3
import Derived.Deep.DeepCutAuto
namespace Go.Proofs.YtphabggmbdpibaaDoor
open Go.RowKit
open Go.Lib (hid)

theorem rbig_calls (q : Option Addr) (n c : Nat) (w : World) : Calls Tryd.prog 17 #[.slice q n c] w fun e w' => e = .returned (.bool (decide ((n : Int) > 1048576))) ∧ w' = w := by
  go_enter Tryd.func17, Tryd.ntmps17
  go_wp2
  go_ret
  exact ⟨rfl, rfl⟩

def TBytes (w : World) (q : Option Addr) (n : Nat) : Prop := ∀ i, i < n → ∃ ad : Addr, q = some ad ∧ ad.block < w.heap.size ∧ ∃ x : Int, 0 ≤ x ∧ x < 256 ∧ w.cell? (ad.add i) = some (.int .u8 x)

theorem rise_step {B : Nat} {a b c : World} (h : Below B a b) (hB : B ≤ a.heap.size) (k : Below b.heap.size b c) : Below B a c := h.trans (k.mono (Nat.le_trans hB h.size))

theorem row_putfar {w w' : World} {g n c : Nat} {W : List Int} (h : RowIn w (.slice (some ⟨g, 0, none⟩) n c) W) (hb : w'.heap[g]? = w.heap[g]?) (hs : w.heap.size ≤ w'.heap.size) : RowIn w' (.slice (some ⟨g, 0, none⟩) n c) W := by
  obtain ⟨p, c', e, hc, hp⟩ := h
  refine ⟨p, c', e, hc, fun hne => ?_⟩
  obtain ⟨g', o', rfl, hg, hcell⟩ := hp hne
  injection e with e1 _ _
  injection e1 with e1
  injection e1 with e1 e2 _
  subst e1 e2
  exact ⟨g, 0, rfl, Nat.lt_of_lt_of_le hg hs, fun j hj => by rw [World.cell?_of_block hb]; exact hcell j hj⟩

set_option maxRecDepth 20000 in
set_option maxHeartbeats 4000000 in
theorem law_bootsrise (q0 : Option Addr) (n cp : Nat) (w : World) (hq : TBytes w q0 n) (hT : Tab w) (hG : 0 < w.heap.size) :
    Calls Tryd.prog 4 #[.slice q0 n cp] w fun e w' => e = .returned (.bool true) ∧ Below w.heap.size w w' := by
  have HQ := hid hq
  have HTAB := hid (fun W (hb : Below w.heap.size w W) => tab_on hT hG hb)
  have HGG := hid (fun W (hb : Below w.heap.size w W) => Nat.lt_of_lt_of_le hG hb.size)
  clear hq
  have CB := hid (fun W => rbig_calls q0 n cp W)
  have CN := hid (fun W hT hG => rootNew_impl keyK W hT hG)
  unfold NewRPost at CN
  rw [rise_new.1] at CN
  dsimp only at CN
  have HNS := hid rise_new.2
  have CO := hid (fun (W : List Int) (x c : Int) (hs : StoodOne W x c) (hx : 0 ≤ x ∧ x ≤ 60) (hc : 1 ≤ c ∧ c ≤ 61) (cut : Int) (h0 : 0 ≤ cut ∧ cut ≤ 5) (up : Bool) a b X ha hb hT hG => on_impl keyK 1 W (by rw [one_len hs]; decide) up (regsAt up) (Nat.le_trans (regsAt_few up) (by decide)) cut (by omega) a b X ha hb hT hG)
  unfold OnPost at CO
  have CK := hid (fun (W : List Int) (x c : Int) (hs : StoodOne W x c) (up : Bool) a b X ha hb hT hG => rootOk_impl keyK 1 W (by rw [one_len hs]; decide) up (regsAt up) (Nat.le_trans (regsAt_few up) (by decide)) a b X ha hb hT hG)
  have CBO := hid (fun (W : List Int) (x c : Int) (hs : StoodOne W x c) (up : Bool) a b X ha hb hT hG => boots_impl keyK 1 W (by rw [one_len hs]; decide) up (regsAt up) (Nat.le_trans (regsAt_few up) (by decide)) a b X ha hb hT hG)
  have CF := hid (fun (W : List Int) (x c : Int) (hs : StoodOne W x c) (up : Bool) a b X ha hb hT hG => off_impl keyK 1 W (by rw [one_len hs]; decide) up (regsAt up) (Nat.le_trans (regsAt_few up) (by decide)) a b X ha hb hT hG)
  unfold OffPost at CF
  clear hT hG
  by_cases hbig : (n : Int) > 1048576
  · have hd := decide_eq_true hbig
    rw [hd] at CB
    go_enter Tryd.func4, Tryd.ntmps4
    go_wp2_with (go_at_call 17; refine (CB.out _).mono ?_; rintro e w1 ⟨rfl, e1⟩; rw [e1]; clear e1 w1)
    go_ret
    exact ⟨rfl, Below.refl _ _⟩
  · have hd := decide_eq_false hbig
    have hn : n ≤ 1048576 := by omega
    rw [hd] at CB
    have H60 := hid (one_len HNS.out)
    generalize zeroW = Z at *
    rw [H60.out] at CN
    clear hd
    go_enter Tryd.func4, Tryd.ntmps4
    go_wp2_with (go_at_call 17; refine (CB.out _).mono ?_; rintro e w1 ⟨rfl, e1⟩; rw [e1]; clear e1 w1; refine Hid.out ?_)
    refine hid ?_
    go_wp2_with (go_at_call 18; refine (CN.out _ (HTAB.out _ (Below.refl _ _)) (HGG.out _ (Below.refl _ _))).mono ?_; rintro e w1 ⟨sv, rfl, hb1, ho1⟩; refine Hid.out ?_)
    refine hid ?_
    have HB1 : Hid (Below w.heap.size w w1) := hid hb1
    obtain ⟨g, cap, rfl, hg1, hg2⟩ := own_form ho1 (by decide)
    have HR1 := hid (row_in_own2 H60.out.symm ho1)
    have hz1 := hb1.size
    clear hb1 ho1
    obtain ⟨b0, hb0⟩ : ∃ b0, b0 = w1.heap.size := ⟨_, rfl⟩
    have HH : Hid (HoldsR w b0 0 1 false (w1.alloc (.cells #[.string keyK, .int .i64 1, .slice (some ⟨g, 0, none⟩) 6 cap, .bool false, .slice none 0 0] 31))) := hid ⟨Z, g, cap, none, 0, HNS.out, by rw [hb0]; exact heap_alloc_new _ _, HR1.out.on ((Below.refl _ _).alloc (Nat.le_refl _) _), ⟨none, 0, rfl, fun h => absurd rfl h⟩, by rw [hb0]; simp, by omega, HB1.out.alloc HB1.out.size _⟩
    go_wp2
    rw [← hb0]
    have HBE := hid hb0
    clear hb0
    go_loopw [4, 5, 6] (fun okv lv iv wr => ∃ (i : Nat) (x c : Int) (up : Bool), okv = .bool true ∧ lv = .int .i64 x ∧ iv = .int .i64 i ∧ i ≤ 60 ∧ 0 ≤ x ∧ x ≤ i ∧ 1 ≤ c ∧ c ≤ i + 1 ∧ Hid (HoldsR w b0 x c up wr)) (fun _ _ iv _ => 60 - (RowKit.intOf iv).toNat)
    case atStart => exact ⟨0, 0, 1, false, rfl, rfl, rfl, by omega, by omega, by omega, by omega, by omega, HH⟩
    case round =>
      obtain ⟨i, x, c, up, rfl, rfl, rfl, hi, hx0, hx1, hc0, hc1, HHO⟩ := hrel
      obtain ⟨W, g, cap, q, d, hst, hbox, hrow, htx, hbl, hwb, hbel⟩ := HHO.out
      have HB := hid hbel
      have HBX := hid hbox
      have HRW := hid hrow
      have HTX := hid htx
      have HST := hid hst
      clear hst hbox hrow htx hbel HHO
      have H6 := hid (one_len HST.out)
      obtain ⟨k0, k1, k2, k3, k4⟩ := five_cells HBX.out
      by_cases hlt : i < n
      · have b2 : (i : Int) < (n : Int) := by omega
        by_cases h60 : i < 60
        · obtain ⟨ad, rfl, hadl, y, hy0, hy1, hyc⟩ := HQ.out i hlt
          have b1 : (0 : Int) ≤ (i : Int) := by omega
          have b3 : (i : Int) < 60 := by omega
          have ky : wr.cell? (ad.add i) = some (.int .u8 y) := (HB.out.cell (p := ad.add i) (by rw [add_block]; exact hadl)).trans hyc
          obtain ⟨ron, rout, r6, rst⟩ := rise_on (cut := y % 6) HST.out (by omega) (by omega) (by omega) up
          have COO := hid (fun a b X ha hb hT hG => CO.out W x c HST.out (by omega) (by omega) (y % 6) (by omega) up a b X ha hb hT hG)
          rw [ron, rout] at COO
          dsimp only at COO
          rw [r6] at COO
          have HR6 := hid r6
          have HYC := hid hyc
          clear hyc ron rout r6
          generalize onW W x (y % 6) = W' at *
          obtain ⟨up', hup⟩ : ∃ u, u = decide (4 ≤ y % 6) := ⟨_, rfl⟩
          rw [← hup] at COO
          have HUP := hid hup
          clear hup
          have HST2 := hid rst
          clear rst
          have HEW : Hid (IntKind.i64.wrap (y.tmod 6) = y % 6) := hid (by rw [Int.tmod_eq_emod_of_nonneg hy0, IntKind.wrap_i64]; omega)
          have HEM : Hid (y.tmod 6 = y % 6) := hid (Int.tmod_eq_emod_of_nonneg hy0)
          have CO2 := hid (COO.out _ _ wr.drew (by exact HRW.out) (by exact HTX.out) (HTAB.out _ (Below.drew HB.out)) (HGG.out _ (Below.drew HB.out)))
          have q0 : wr.drew.cell? ⟨b0, 0, none⟩ = some (.string keyK) := k0
          have q1 : wr.drew.cell? ⟨b0, 1, none⟩ = some (.int .i64 1) := k1
          have q2 : wr.drew.cell? ⟨b0, 2, none⟩ = some (.slice (some ⟨g, 0, none⟩) 6 cap) := k2
          have q3 : wr.drew.cell? ⟨b0, 3, none⟩ = some (.bool up) := k3
          have q4 : wr.drew.cell? ⟨b0, 4, none⟩ = some (.slice q (regsAt up).length d) := k4
          have ky2 : wr.drew.cell? (ad.add i) = some (.int .u8 y) := ky
          go_wp2
          go_region_with (go_at_call 13; rw [HEW.out]; refine CO2.out.mono ?_; rintro e x1 ⟨sv1, sv2, rfl, hy1, ho3, hp3, hq3⟩; obtain ⟨g3, cap3, rfl, hg3, hg4⟩ := own_form ho3 (by decide); obtain ⟨q3, d3, rfl, _⟩ := texts_of hp3; have HBX3 := hid ((hy1.block b0 (by exact hbl)).trans (show (wr.drew).heap[b0]? = _ from HBX.out)); obtain ⟨z0, z1, z2, z3, z4⟩ := five_cells HBX3.out; have f0 := five_thaw HBX3.out 0; have f1 := five_thaw HBX3.out 1; have f2 := five_thaw HBX3.out 2; have f3 := five_thaw HBX3.out 3; have f4 := five_thaw HBX3.out 4)
          all_goals
            obtain ⟨W5, hW5⟩ : ∃ W5, W5 = ((((x1.setCell ⟨b0, 0, none⟩ (.string keyK)).setCell ⟨b0, 1, none⟩ (.int .i64 1)).setCell ⟨b0, 2, none⟩ (.slice (some ⟨g3, 0, none⟩) 6 cap3)).setCell ⟨b0, 3, none⟩ (.bool up')).setCell ⟨b0, 4, none⟩ (.slice q3 (regsAt up').length d3) := ⟨_, rfl⟩
            have hwd : wr.drew.heap.size = wr.heap.size := rfl
            have HBX5 := hid (five_put HBX3.out (.string keyK) (.int .i64 1) (.slice (some ⟨g3, 0, none⟩) 6 cap3) (.bool up') (.slice q3 (regsAt up').length d3))
            have HO5 := hid (own_five (b := b0) ho3 (fun e => by have e2 : g3 = b0 := Option.some.inj e; omega) (.string keyK) (.int .i64 1) (.slice (some ⟨g3, 0, none⟩) 6 cap3) (.bool up') (.slice q3 (regsAt up').length d3))
            have HP5 := hid (own_five (b := b0) hp3 (fun e => by have := (hp3.lt _ e).1; omega) (.string keyK) (.int .i64 1) (.slice (some ⟨g3, 0, none⟩) 6 cap3) (.bool up') (.slice q3 (regsAt up').length d3))
            have HB5 := hid (below_five (rise_step (Below.drew HB.out) (Nat.le_refl _) hy1) hwb (.string keyK) (.int .i64 1) (.slice (some ⟨g3, 0, none⟩) 6 cap3) (.bool up') (.slice q3 (regsAt up').length d3))
            rw [← hW5] at HBX5 HO5 HP5 HB5
            have HZ5 : Hid (b0 < W5.heap.size) := hid (by have := hy1.size; rw [hW5]; simp; omega)
            have HR5 := hid (row_in_own2 HR6.out.symm HO5.out)
            have HT5 := hid (texts_of HP5.out)
            have HY5 := hid (fun W (hW : Below W5.heap.size W5 W) => (HB5.out.trans (hW.mono HB5.out.size)).cell (p := ad.add i) (by rw [add_block]; exact hadl))
            rw [← hW5]
            clear hW5 hy1 ho3 hp3 hq3 z0 z1 z2 z3 z4 f0 f1 f2 f3 f4 k0 k1 k2 k3 k4 q0 q1 q2 q4 ky ky2
            by_cases h4 : 4 ≤ y % 6
            · skip
              have H4D : Hid (decide (4 ≤ y % 6) = true) := hid (decide_eq_true h4)
              rw [if_pos h4, if_pos h4] at HST2
              obtain rfl : up' = true := HUP.out.trans H4D.out
              have hdm : 4 ≤ y.tmod 6 := by rw [HEM.out]; exact h4
              have hue : (true != decide (4 ≤ y.tmod 6)) = false := by rw [HEM.out, H4D.out]; rfl
              have n0 : ∀ W : World, Below W5.heap.size W5 W → W.cell? ⟨b0, 0, none⟩ = some (.string keyK) := fun W hW => (hW.cell (p := ⟨b0, 0, none⟩) HZ5.out).trans (five_cells HBX5.out).1
              have n1 : ∀ W : World, Below W5.heap.size W5 W → W.cell? ⟨b0, 1, none⟩ = some (.int .i64 1) := fun W hW => (hW.cell (p := ⟨b0, 1, none⟩) HZ5.out).trans (five_cells HBX5.out).2.1
              have n2 : ∀ W : World, Below W5.heap.size W5 W → W.cell? ⟨b0, 2, none⟩ = some (.slice (some ⟨g3, 0, none⟩) 6 cap3) := fun W hW => (hW.cell (p := ⟨b0, 2, none⟩) HZ5.out).trans (five_cells HBX5.out).2.2.1
              have n3 : ∀ W : World, Below W5.heap.size W5 W → W.cell? ⟨b0, 3, none⟩ = some (.bool true) := fun W hW => (hW.cell (p := ⟨b0, 3, none⟩) HZ5.out).trans (five_cells HBX5.out).2.2.2.1
              have n4 : ∀ W : World, Below W5.heap.size W5 W → W.cell? ⟨b0, 4, none⟩ = some (.slice q3 (regsAt true).length d3) := fun W hW => (hW.cell (p := ⟨b0, 4, none⟩) HZ5.out).trans (five_cells HBX5.out).2.2.2.2
              have ny : ∀ W : World, Below W5.heap.size W5 W → W.cell? (ad.add i) = some (.int .u8 y) := fun W hW => (HY5.out W hW).trans HYC.out
              have CKK := hid (fun X (hX : Below W5.heap.size W5 X) => CK.out W' _ _ HST2.out true _ _ X (HR5.out.on hX) (HT5.out.on hX) (HTAB.out _ (HB5.out.trans (hX.mono HB5.out.size))) (HGG.out _ (HB5.out.trans (hX.mono HB5.out.size))))
              rw [rise_ok HST2.out] at CKK
              go_wp2
              go_region_held3 (fun w' => Below W5.heap.size W5 w') (first | with_reducible assumption | exact Below.drew (Below.refl _ _) | exact rise_step (by assumption) (by simp) (by assumption)) (first | (go_at_call 19; refine (CKK.out _ (by assumption)).mono ?_; rintro e x5 ⟨rfl, hy5⟩) | (fail "no arm"))
              rename_i hS
              have HB6 := hid (HB5.out.trans (hS.mono HB5.out.size))
              have HBX6 := hid ((hS.block b0 HZ5.out).trans HBX5.out)
              have HR6b := hid (HR5.out.on hS)
              have HT6 := hid (HT5.out.on hS)
              have HZ6 := hid (Nat.lt_of_lt_of_le HZ5.out hS.size)
              clear hS n0 n1 n2 n3 n4 ny hue
              generalize hx6 : x5 = w6 at *
              clear hx6
              obtain ⟨k0, k1, k2, k3, k4⟩ := five_cells HBX6.out
              have CBB := hid (CBO.out W' _ _ HST2.out true _ _ w6 HR6b.out HT6.out (HTAB.out _ HB6.out) (HGG.out _ HB6.out))
              rw [rise_boots HST2.out] at CBB
              go_wp2_with (go_at_call 20; refine CBB.out.mono ?_; rintro e w7 ⟨rfl, hb7⟩; refine Hid.out ?_)
              refine hid ?_
              have HFIN : Hid (HoldsR w b0 (x + 1) (c + 1) true w7) := hid ⟨W', g3, cap3, q3, d3, HST2.out, (hb7.block b0 HZ6.out).trans HBX6.out, HR6b.out.on hb7, HT6.out.on hb7, Nat.lt_of_lt_of_le HZ6.out hb7.size, hwb, HB6.out.trans (hb7.mono HB6.out.size)⟩
              clear hb7 k0 k1 k2 k3 k4
              have hle : ¬ x + 1 ≤ x := by omega
              go_wp2
              go_roundw
              case rel => exact ⟨i + 1, x + 1, c + 1, true, rfl, rfl, by go_num, by omega, by omega, by omega, by omega, by omega, HFIN⟩
              case measure => simp [RowKit.intOf]; omega
            · skip
              have H4D : Hid (decide (4 ≤ y % 6) = false) := hid (decide_eq_false h4)
              rw [if_neg h4, if_neg h4] at HST2
              obtain rfl : up' = false := HUP.out.trans H4D.out
              have hdm : y.tmod 6 < 4 := by rw [HEM.out]; omega
              have hue : (false != decide (4 ≤ y.tmod 6)) = false := by rw [HEM.out, H4D.out]; rfl
              have n0 : ∀ W : World, Below W5.heap.size W5 W → W.cell? ⟨b0, 0, none⟩ = some (.string keyK) := fun W hW => (hW.cell (p := ⟨b0, 0, none⟩) HZ5.out).trans (five_cells HBX5.out).1
              have n1 : ∀ W : World, Below W5.heap.size W5 W → W.cell? ⟨b0, 1, none⟩ = some (.int .i64 1) := fun W hW => (hW.cell (p := ⟨b0, 1, none⟩) HZ5.out).trans (five_cells HBX5.out).2.1
              have n2 : ∀ W : World, Below W5.heap.size W5 W → W.cell? ⟨b0, 2, none⟩ = some (.slice (some ⟨g3, 0, none⟩) 6 cap3) := fun W hW => (hW.cell (p := ⟨b0, 2, none⟩) HZ5.out).trans (five_cells HBX5.out).2.2.1
              have n3 : ∀ W : World, Below W5.heap.size W5 W → W.cell? ⟨b0, 3, none⟩ = some (.bool false) := fun W hW => (hW.cell (p := ⟨b0, 3, none⟩) HZ5.out).trans (five_cells HBX5.out).2.2.2.1
              have n4 : ∀ W : World, Below W5.heap.size W5 W → W.cell? ⟨b0, 4, none⟩ = some (.slice q3 (regsAt false).length d3) := fun W hW => (hW.cell (p := ⟨b0, 4, none⟩) HZ5.out).trans (five_cells HBX5.out).2.2.2.2
              have ny : ∀ W : World, Below W5.heap.size W5 W → W.cell? (ad.add i) = some (.int .u8 y) := fun W hW => (HY5.out W hW).trans HYC.out
              have CKK := hid (fun X (hX : Below W5.heap.size W5 X) => CK.out W' _ _ HST2.out false _ _ X (HR5.out.on hX) (HT5.out.on hX) (HTAB.out _ (HB5.out.trans (hX.mono HB5.out.size))) (HGG.out _ (HB5.out.trans (hX.mono HB5.out.size))))
              rw [rise_ok HST2.out] at CKK
              go_wp2
              go_region_held3 (fun w' => Below W5.heap.size W5 w') (first | with_reducible assumption | exact Below.drew (Below.refl _ _) | exact rise_step (by assumption) (by simp) (by assumption)) (first | (go_at_call 19; refine (CKK.out _ (by assumption)).mono ?_; rintro e x5 ⟨rfl, hy5⟩) | (fail "no arm"))
              rename_i hS
              have HB6 := hid (HB5.out.trans (hS.mono HB5.out.size))
              have HBX6 := hid ((hS.block b0 HZ5.out).trans HBX5.out)
              have HR6b := hid (HR5.out.on hS)
              have HT6 := hid (HT5.out.on hS)
              have HZ6 := hid (Nat.lt_of_lt_of_le HZ5.out hS.size)
              clear hS n0 n1 n2 n3 n4 ny hue
              generalize hx6 : x5 = w6 at *
              clear hx6
              obtain ⟨k0, k1, k2, k3, k4⟩ := five_cells HBX6.out
              have HFIN : Hid (HoldsR w b0 x c false w6) := hid ⟨W', g3, cap3, q3, d3, HST2.out, HBX6.out, HR6b.out, HT6.out, HZ6.out, hwb, HB6.out⟩
              go_wp2
              go_roundw
              case rel => exact ⟨i + 1, x, c, false, rfl, rfl, by go_num, by omega, by omega, by omega, by omega, by omega, HFIN⟩
              case measure => simp [RowKit.intOf]; omega
        · have b3 : ¬ (i : Int) < 60 := by omega
          have m0 : ∀ X : World, Below wr.heap.size wr X → X.cell? ⟨b0, 0, none⟩ = some (.string keyK) := fun X hX => (hX.cell (p := ⟨b0, 0, none⟩) hbl).trans k0
          have m1 : ∀ X : World, Below wr.heap.size wr X → X.cell? ⟨b0, 1, none⟩ = some (.int .i64 1) := fun X hX => (hX.cell (p := ⟨b0, 1, none⟩) hbl).trans k1
          have m2 : ∀ X : World, Below wr.heap.size wr X → X.cell? ⟨b0, 2, none⟩ = some (.slice (some ⟨g, 0, none⟩) 6 cap) := fun X hX => (hX.cell (p := ⟨b0, 2, none⟩) hbl).trans k2
          have m3 : ∀ X : World, Below wr.heap.size wr X → X.cell? ⟨b0, 3, none⟩ = some (.bool up) := fun X hX => (hX.cell (p := ⟨b0, 3, none⟩) hbl).trans k3
          have m4 : ∀ X : World, Below wr.heap.size wr X → X.cell? ⟨b0, 4, none⟩ = some (.slice q (regsAt up).length d) := fun X hX => (hX.cell (p := ⟨b0, 4, none⟩) hbl).trans k4
          have hfd : ∀ (a b c e : Value) (u : Bool) (X : World), (Instr.field 31 (.agg #[a, b, c, .bool u, e]) 2).run Tryd.prog X = .ok (.bool u) X := fun _ _ _ _ _ _ => rfl
          have COFF := hid (fun X (hX : Below wr.heap.size wr X) => CF.out W x c HST.out up _ _ X (HRW.out.on hX) (HTX.out.on hX) (HTAB.out _ (HB.out.trans (hX.mono HB.out.size))) (HGG.out _ (HB.out.trans (hX.mono HB.out.size))))
          rw [rise_off HST.out] at COFF
          dsimp only at COFF
          rw [H6.out] at COFF
          have CBR := hid (fun X (hX : Below wr.heap.size wr X) => CBO.out W x c HST.out up _ _ X (HRW.out.on hX) (HTX.out.on hX) (HTAB.out _ (HB.out.trans (hX.mono HB.out.size))) (HGG.out _ (HB.out.trans (hX.mono HB.out.size))))
          rw [rise_boots HST.out] at CBR
          have CBF := hid (fun (sv : Value) X (hr : RowIn X sv W) (hX : Below wr.heap.size wr X) => CBO.out W x c HST.out false sv (.slice none 0 0) X hr ⟨none, 0, rfl, fun h => absurd rfl h⟩ (HTAB.out _ (HB.out.trans (hX.mono HB.out.size))) (HGG.out _ (HB.out.trans (hX.mono HB.out.size))))
          rw [rise_boots HST.out] at CBF
          clear k0 k1 k2 k3 k4
          go_wp2
          go_region_held3 (fun w' => Below wr.heap.size wr w') (first | with_reducible assumption | exact Below.drew (Below.refl _ _) | exact rise_step (by assumption) (by simp) (by assumption)) (first | (go_at_call 21; refine (COFF.out _ (by assumption)).mono ?_; rintro e x1 ⟨sv1, rfl, hy1, hr1⟩; obtain ⟨g5, cap5, rfl, _, _⟩ := own_form hr1 (by decide)) | (go_at_call_of 20 (Value.agg #[.string keyK, .int .i64 1, .slice (some ⟨g, 0, none⟩) 6 cap, .bool up, .slice q (regsAt up).length d]); refine (CBR.out _ (by assumption)).mono ?_; rintro e x2 ⟨rfl, hy2⟩) | (go_at_call 20; refine (CBF.out _ _ (by first | exact row_in_own2 H6.out.symm hr1 | exact (row_in_own2 H6.out.symm hr1).on (by assumption)) (by assumption)).mono ?_; rintro e x3 ⟨rfl, hy3⟩) | (fail "no arm"))
          all_goals
            rename_i hS
            have HB6 := hid (HB.out.trans (hS.mono HB.out.size))
            go_wp2
            go_ret
            exact ⟨rfl, HB6.out⟩
      · have b2 : ¬ (i : Int) < (n : Int) := by omega
        have m0 : ∀ X : World, Below wr.heap.size wr X → X.cell? ⟨b0, 0, none⟩ = some (.string keyK) := fun X hX => (hX.cell (p := ⟨b0, 0, none⟩) hbl).trans k0
        have m1 : ∀ X : World, Below wr.heap.size wr X → X.cell? ⟨b0, 1, none⟩ = some (.int .i64 1) := fun X hX => (hX.cell (p := ⟨b0, 1, none⟩) hbl).trans k1
        have m2 : ∀ X : World, Below wr.heap.size wr X → X.cell? ⟨b0, 2, none⟩ = some (.slice (some ⟨g, 0, none⟩) 6 cap) := fun X hX => (hX.cell (p := ⟨b0, 2, none⟩) hbl).trans k2
        have m3 : ∀ X : World, Below wr.heap.size wr X → X.cell? ⟨b0, 3, none⟩ = some (.bool up) := fun X hX => (hX.cell (p := ⟨b0, 3, none⟩) hbl).trans k3
        have m4 : ∀ X : World, Below wr.heap.size wr X → X.cell? ⟨b0, 4, none⟩ = some (.slice q (regsAt up).length d) := fun X hX => (hX.cell (p := ⟨b0, 4, none⟩) hbl).trans k4
        have hfd : ∀ (a b c e : Value) (u : Bool) (X : World), (Instr.field 31 (.agg #[a, b, c, .bool u, e]) 2).run Tryd.prog X = .ok (.bool u) X := fun _ _ _ _ _ _ => rfl
        have COFF := hid (fun X (hX : Below wr.heap.size wr X) => CF.out W x c HST.out up _ _ X (HRW.out.on hX) (HTX.out.on hX) (HTAB.out _ (HB.out.trans (hX.mono HB.out.size))) (HGG.out _ (HB.out.trans (hX.mono HB.out.size))))
        rw [rise_off HST.out] at COFF
        dsimp only at COFF
        rw [H6.out] at COFF
        have CBR := hid (fun X (hX : Below wr.heap.size wr X) => CBO.out W x c HST.out up _ _ X (HRW.out.on hX) (HTX.out.on hX) (HTAB.out _ (HB.out.trans (hX.mono HB.out.size))) (HGG.out _ (HB.out.trans (hX.mono HB.out.size))))
        rw [rise_boots HST.out] at CBR
        have CBF := hid (fun (sv : Value) X (hr : RowIn X sv W) (hX : Below wr.heap.size wr X) => CBO.out W x c HST.out false sv (.slice none 0 0) X hr ⟨none, 0, rfl, fun h => absurd rfl h⟩ (HTAB.out _ (HB.out.trans (hX.mono HB.out.size))) (HGG.out _ (HB.out.trans (hX.mono HB.out.size))))
        rw [rise_boots HST.out] at CBF
        clear k0 k1 k2 k3 k4
        go_wp2
        go_region_held3 (fun w' => Below wr.heap.size wr w') (first | with_reducible assumption | exact Below.drew (Below.refl _ _) | exact rise_step (by assumption) (by simp) (by assumption)) (first | (go_at_call 21; refine (COFF.out _ (by assumption)).mono ?_; rintro e x1 ⟨sv1, rfl, hy1, hr1⟩; obtain ⟨g5, cap5, rfl, _, _⟩ := own_form hr1 (by decide)) | (go_at_call_of 20 (Value.agg #[.string keyK, .int .i64 1, .slice (some ⟨g, 0, none⟩) 6 cap, .bool up, .slice q (regsAt up).length d]); refine (CBR.out _ (by assumption)).mono ?_; rintro e x2 ⟨rfl, hy2⟩) | (go_at_call 20; refine (CBF.out _ _ (by first | exact row_in_own2 H6.out.symm hr1 | exact (row_in_own2 H6.out.symm hr1).on (by assumption)) (by assumption)).mono ?_; rintro e x3 ⟨rfl, hy3⟩) | (fail "no arm"))
        all_goals
          rename_i hS
          have HB6 := hid (HB.out.trans (hS.mono HB.out.size))
          go_wp2
          go_ret
          exact ⟨rfl, HB6.out⟩
end Go.Proofs.YtphabggmbdpibaaDoor
