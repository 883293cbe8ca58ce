/- FitClock, the specification's. -/
import Derived.Test.YthpnlhbfginkjaaFitPlain
import Derived.Test.YthpnlhbfginkjaaLawAbove
import Derived.Deep.DeepCutAuto
namespace Go.Proofs.Ythpnlhbfginkjaa
open Go.RowKit
open Go.Lib (hid)

theorem fw_cell2 (op : BinOp) (x y : Nat) (w : World) (p : Addr) : (fw op x y w).cell? p = w.cell? p := by
  unfold fw
  split <;> rfl

attribute [local go_sem] run_fadd run_fsub run_fmul run_fquo run_store_float fw_cell2

/-- What stands of a box of two floats. -/
def DBox (W : World) (b : Nat) (x y : Nat) : Prop := W.heap[b]? = some (.cells #[.float .f64 x, .float .f64 y] 34)

theorem DBox.facts {W : World} {b x y : Nat} (h : DBox W b x y) : W.cell? ⟨b, 0, none⟩ = some (.float .f64 x) ∧ W.cell? ⟨b, 1, none⟩ = some (.float .f64 y) ∧ W.frozen? ⟨b, 0, none⟩ = false ∧ W.frozen? ⟨b, 1, none⟩ = false := by
  unfold DBox at h
  exact ⟨(cell_of_row _ _ 0 _ _ _ h).trans rfl, (cell_of_row _ _ 1 _ _ _ h).trans rfl, by simp [World.frozen?, h], by simp [World.frozen?, h]⟩

/-- Two boxes ahead of a world. -/
theorem two_drifts (w W : World) (h : Below ((w.alloc (.cells #[.float .f64 0, .float .f64 0] 34)).alloc (.cells #[.float .f64 0, .float .f64 0] 34)).heap.size ((w.alloc (.cells #[.float .f64 0, .float .f64 0] 34)).alloc (.cells #[.float .f64 0, .float .f64 0] 34)) W) : DBox W w.heap.size 0 0 ∧ DBox W (w.heap.size + 1) 0 0 := by
  have hz : (w.alloc (.cells #[.float .f64 0, .float .f64 0] 34)).heap.size = w.heap.size + 1 := by simp
  have h1 := heap_alloc_new w (.cells #[.float .f64 0, .float .f64 0] 34)
  have h2 := heap_alloc_new (w.alloc (.cells #[.float .f64 0, .float .f64 0] 34)) (.cells #[.float .f64 0, .float .f64 0] 34)
  rw [hz] at h2
  exact ⟨(h.block _ (by simp; omega)).trans ((heap_alloc_old _ _ (by simp)).trans h1), (h.block _ (by simp)).trans h2⟩

set_option maxRecDepth 20000 in
set_option maxHeartbeats 4000000 in
theorem fit_spec_no (p q : Option Addr) (n m c d : Nat) (hno : 100 < n ∨ n ≤ 100 ∧ n ≠ m) (w : World) :
    Calls Try.prog 14 #[.slice p n c, .slice q m d] w (FitPost none w) := by
  rcases hno with h | ⟨h, hne⟩
  · have h2 : (n : Int) > 100 := by omega
    go_enter Try.func14, Try.ntmps14
    go_wp2
    refine bodyPost_ret (v := .tuple #[.agg #[.float .f64 0, .float .f64 0], .bool false]) (by simp [results, Try.results14, go_sem]) rfl (fit_post 0 0 false rfl (⟨rfl, rfl, rfl⟩) ?_)
    repeat (first | exact Below.refl _ _ | exact Below.refl _ _ | (refine Below.setCell ?_ (by first | (simp; done) | (simp; omega)) _) | (refine Below.alloc ?_ (by first | (simp; done) | (simp; omega)) _))
  · have h2 : ¬ (n : Int) > 100 := by omega
    have h3 : ((n : Int) != (m : Int)) = true := by simp; omega
    go_enter Try.func14, Try.ntmps14
    go_wp2
    refine bodyPost_ret (v := .tuple #[.agg #[.float .f64 0, .float .f64 0], .bool false]) (by simp [results, Try.results14, go_sem]) rfl (fit_post 0 0 false rfl (⟨rfl, rfl, rfl⟩) ?_)
    repeat (first | exact Below.refl _ _ | exact Below.refl _ _ | (refine Below.setCell ?_ (by first | (simp; done) | (simp; omega)) _) | (refine Below.alloc ?_ (by first | (simp; done) | (simp; omega)) _))

set_option maxRecDepth 20000 in
set_option maxHeartbeats 8000000 in
theorem fit_spec (zs : List (Int × Nat)) (hn : zs.length ≤ 100) (a b : Value) (w : World) (ha : RowIn w a (zs.map Prod.fst)) (hb : RowFl w b (zs.map Prod.snd)) :
    Calls Try.prog 14 #[a, b] w (FitPost (fitO zs) w) := by
  obtain ⟨p, c, rfl, hp⟩ := row_tk ha
  obtain ⟨q, d, rfl, hq⟩ := row_of hb
  have HP := hid hp
  have HQ := hid hq
  clear hp hq ha hb
  obtain ⟨W0, hW0⟩ : ∃ W0, W0 = (w.alloc (.cells #[.float .f64 0, .float .f64 0] 34)).alloc (.cells #[.float .f64 0, .float .f64 0] 34) := ⟨_, rfl⟩
  have HW0 := hid hW0
  have HD : Hid (∀ W, Below W0.heap.size W0 W → DBox W w.heap.size 0 0 ∧ DBox W (w.heap.size + 1) 0 0) := hid (fun W h => by rw [hW0] at h; exact two_drifts w W h)
  have hb0 : Below w.heap.size w W0 := by rw [hW0]; exact ((Below.refl _ _).alloc (Nat.le_refl _) _).alloc (by simp) _
  have HB0 := hid hb0
  have hz0 : w.heap.size + 2 ≤ W0.heap.size := by rw [hW0]; simp
  clear hW0 hb0
  have hne0 : ((zs.length : Int) != (zs.length : Int)) = false := by simp
  have HOUT : Hid (fitO zs = if okT zs = true ∧ 2 ≤ (rds zs).length ∧ drO (rateO (rds zs)) (offO (rds zs)) = true then some (rateO (rds zs), offO (rds zs)) else none) := hid rfl
  go_enter Try.func14, Try.ntmps14
  go_wp2
  go_loopw [7, 8, 9, 10, 11, 12] (fun nv xv yv xxv xyv iv wr => ∃ (i : Nat) (ks : List (Nat × Nat)) (n sx sy sxx sxy : Nat), i ≤ zs.length ∧ iv = .int .i64 ((i : Nat) : Int) ∧ nv = .float .f64 n ∧ xv = .float .f64 sx ∧ yv = .float .f64 sy ∧ xxv = .float .f64 sxx ∧ xyv = .float .f64 sxy ∧ Hid (rds (zs.take i) = ks) ∧ ks.length ≤ i ∧ Hid (okT (zs.take i) = true) ∧ Hid (Sums ks n sx sy sxx sxy) ∧ Hid (Below W0.heap.size W0 wr)) (fun _ _ _ _ _ iv _ => zs.length - (RowKit.intOf iv).toNat)
  case atStart => exact ⟨0, [], 0, 0, 0, 0, 0, Nat.zero_le _, rfl, rfl, rfl, rfl, rfl, rfl, hid rfl, Nat.le_refl _, hid rfl, hid Sums.start, hid (by rw [HW0.out]; exact Below.refl _ _)⟩
  case round =>
    obtain ⟨i, ks, n, sx, sy, sxx, sxy, hi, rfl, rfl, rfl, rfl, rfl, rfl, HK, hks, HT, HS, HB⟩ := hrel
    obtain ⟨k0, k1, f0, f1⟩ := (HD.out wr HB.out).1.facts
    obtain ⟨k2, k3, _, _⟩ := (HD.out wr HB.out).2.facts
    by_cases hlt : i < zs.length
    · have hne : zs ≠ [] := fun h => by rw [h] at hlt; cases hlt
      obtain ⟨g, o, rfl, hg, hc⟩ := HP.out hne
      obtain ⟨g2, o2, rfl, hg2, hc2⟩ := HQ.out hne
      have hbw : Below w.heap.size w wr := HB0.out.trans (HB.out.mono HB0.out.size)
      have c0 : wr.cell? ⟨g, o + i, none⟩ = some (.int .i64 zs[i].1) := (hbw.cell (p := ⟨g, o + i, none⟩) hg).trans (hc i hlt)
      have c1 : wr.cell? ⟨g2, o2 + i, none⟩ = some (.float .f64 zs[i].2) := (hbw.cell (p := ⟨g2, o2 + i, none⟩) hg2).trans (hc2 i hlt)
      have HN := hid (rds_next zs i hlt)
      have HTN := hid (okT_next zs i hlt)
      have HTO := hid (okT_no zs i hlt)
      have CT := hid (fun W => in_anyF zs[i].1 0 1000000 W)
      have HTK : Hid (tkB zs[i].1 = decide (0 ≤ zs[i].1 ∧ zs[i].1 ≤ 1000000)) := hid rfl
      clear hc hc2 hbw
      generalize zs[i].1 = t at *
      generalize zs[i].2 = y at *
      have b1 : (0 : Int) ≤ (i : Int) := by omega
      have b2 : (i : Int) < (zs.length : Int) := by omega
      cases ht : decide (0 ≤ t ∧ t ≤ 1000000) with
      | false =>
        have HFIT : Hid (fitO zs = none) := hid (by rw [HOUT.out, if_neg (fun h => by rw [HTO.out (by rw [HTK.out]; exact ht)] at h; cases h.1)])
        rw [ht] at CT
        go_wp2_with (go_at_call 41; refine (CT.out _).mono ?_; rintro e wq ⟨rfl, eq⟩; rw [eq]; clear eq wq)
        refine bodyPost_ret (v := .tuple #[.agg #[.float .f64 0, .float .f64 0], .bool false]) (by simp [results, Try.results14, go_sem, k0, k1]) rfl (fit_post 0 0 false rfl (by rw [HFIT.out]; exact ⟨rfl, rfl, rfl⟩) ?_)
        repeat (first | exact Below.refl _ _ | exact HB0.out.trans (HB.out.mono HB0.out.size) | (refine Below.setCell ?_ (by first | (simp; done) | (simp; omega)) _) | (refine Below.alloc ?_ (by first | (simp; done) | (simp; omega)) _))
      | true =>
        rw [ht] at CT
        have HT2 : Hid (okT (zs.take (i + 1)) = true) := hid (by rw [HTN.out, HT.out, HTK.out, ht]; rfl)
        cases hf : finB y with
        | false =>
          have HN2 : Hid (rds (zs.take (i + 1)) = ks) := hid (by rw [HN.out, hf, if_neg (by simp), HK.out])
          go_wp2_with (first | (go_at_call 41; refine (CT.out _).mono ?_; rintro e wq ⟨rfl, eq⟩; rw [eq]; clear eq wq) | (go_at_call 34; refine (known_inf hf _).mono ?_; rintro e w4 ⟨rfl, hb4⟩; have HB4 := hid hb4; clear hb4))
          go_wp2
          go_roundw
          case rel => exact ⟨i + 1, ks, n, sx, sy, sxx, sxy, by omega, by go_num, rfl, rfl, rfl, rfl, rfl, HN2, by omega, HT2, HS, hid (HB.out.trans (HB4.out.mono HB.out.size))⟩
          case measure => simp [RowKit.intOf]; omega
        | true =>
          have HN2 : Hid (rds (zs.take (i + 1)) = ks ++ [(floatOfInt .f64 t, y)]) := hid (by rw [HN.out, hf, if_pos rfl, HK.out])
          have hk100 : ks.length ≤ 100 := by omega
          go_wp2_with (first | (go_at_call 41; refine (CT.out _).mono ?_; rintro e wq ⟨rfl, eq⟩; rw [eq]; clear eq wq) | (go_at_call 34; refine (known_fin hf _).mono ?_; rintro e wq ⟨rfl, eq⟩; rw [eq]; clear eq wq))
          go_wp2
          go_roundw
          case rel => exact ⟨i + 1, ks ++ [(floatOfInt .f64 t, y)], _, _, _, _, _, by omega, by go_num, rfl, rfl, rfl, rfl, rfl, HN2, by rw [List.length_append]; simp; omega, HT2, hid (HS.out.put hk100 _ _ _ _ _ _ _ _ _), hid (HB.out.trans (((((((Below.refl _ _).trans (fw_below _ _ _ _ _)).trans (fw_below _ _ _ _ _)).trans (fw_below _ _ _ _ _)).trans (fw_below _ _ _ _ _)).trans (fw_below _ _ _ _ _)).trans (fw_below _ _ _ _ _) |>.trans (fw_below _ _ _ _ _)))⟩
          case measure => simp [RowKit.intOf]; omega
    · have hie : i = zs.length := by omega
      subst hie
      have HK2 := HK.out
      have HT2 := HT.out
      rw [List.take_length] at HK2 HT2
      rw [HK2, HT2] at HOUT
      have HQT := hid HOUT.out
      clear HK2 HT2 HOUT
      have hk100 : ks.length ≤ 100 := by omega
      have hcmp : (FloatKind.f64.format.order n 4611686018427387904 == some .lt) = decide (ks.length < 2) := by rw [HS.out.cnt]; exact count_two _ hk100
      have HCN : Hid (FS (cntO ks) n) := hid (by rw [HS.out.cnt]; exact FS.some _)
      by_cases h2 : ks.length < 2
      · have HFIT : Hid (fitO zs = none) := hid (by rw [HQT.out, if_neg (fun h => by omega)])
        rw [decide_eq_true h2] at hcmp
        go_wp2
        refine bodyPost_ret (v := .tuple #[.agg #[.float .f64 0, .float .f64 0], .bool false]) (by simp [results, Try.results14, go_sem, k0, k1]) rfl (fit_post 0 0 false rfl (by rw [HFIT.out]; exact ⟨rfl, rfl, rfl⟩) ?_)
        repeat (first | exact Below.refl _ _ | exact HB0.out.trans (HB.out.mono HB0.out.size) | (refine Below.setCell ?_ (by first | (simp; done) | (simp; omega)) _) | (refine Below.alloc ?_ (by first | (simp; done) | (simp; omega)) _))
      · rw [decide_eq_false h2] at hcmp
        go_upto_region 27 with (fail)
        obtain ⟨q1, W1, e1, e2⟩ : ∃ v W, fb .mul n sxy wr = v ∧ fw .mul n sxy wr = W := ⟨_, _, rfl, rfl⟩
        rw [e1, e2]
        have HFq1 := hid (FS.op .mul HCN.out HS.out.xy wr)
        rw [e1] at HFq1
        have HBW1 : Hid (Below W0.heap.size W0 W1) := hid (by rw [← e2]; exact HB.out.trans (fw_below _ _ _ _ _))
        clear e1 e2
        go_upto_region 28 with (fail)
        obtain ⟨q2, W2, e1, e2⟩ : ∃ v W, fb .mul sx sy W1 = v ∧ fw .mul sx sy W1 = W := ⟨_, _, rfl, rfl⟩
        rw [e1, e2]
        have HFq2 := hid (FS.op .mul HS.out.x HS.out.y W1)
        rw [e1] at HFq2
        have HBW2 : Hid (Below W0.heap.size W0 W2) := hid (by rw [← e2]; exact HBW1.out.trans (fw_below _ _ _ _ _))
        clear e1 e2
        go_upto_region 29 with (fail)
        obtain ⟨q3, W3, e1, e2⟩ : ∃ v W, fb .sub q1 q2 W2 = v ∧ fw .sub q1 q2 W2 = W := ⟨_, _, rfl, rfl⟩
        rw [e1, e2]
        have HFq3 := hid (FS.op .sub HFq1.out HFq2.out W2)
        rw [e1] at HFq3
        have HBW3 : Hid (Below W0.heap.size W0 W3) := hid (by rw [← e2]; exact HBW2.out.trans (fw_below _ _ _ _ _))
        clear e1 e2
        go_upto_region 30 with (fail)
        obtain ⟨q4, W4, e1, e2⟩ : ∃ v W, fb .mul n sxx W3 = v ∧ fw .mul n sxx W3 = W := ⟨_, _, rfl, rfl⟩
        rw [e1, e2]
        have HFq4 := hid (FS.op .mul HCN.out HS.out.xx W3)
        rw [e1] at HFq4
        have HBW4 : Hid (Below W0.heap.size W0 W4) := hid (by rw [← e2]; exact HBW3.out.trans (fw_below _ _ _ _ _))
        clear e1 e2
        go_upto_region 31 with (fail)
        obtain ⟨q5, W5, e1, e2⟩ : ∃ v W, fb .mul sx sx W4 = v ∧ fw .mul sx sx W4 = W := ⟨_, _, rfl, rfl⟩
        rw [e1, e2]
        have HFq5 := hid (FS.op .mul HS.out.x HS.out.x W4)
        rw [e1] at HFq5
        have HBW5 : Hid (Below W0.heap.size W0 W5) := hid (by rw [← e2]; exact HBW4.out.trans (fw_below _ _ _ _ _))
        clear e1 e2
        go_upto_region 32 with (fail)
        obtain ⟨q6, W6, e1, e2⟩ : ∃ v W, fb .sub q4 q5 W5 = v ∧ fw .sub q4 q5 W5 = W := ⟨_, _, rfl, rfl⟩
        rw [e1, e2]
        have HFq6 := hid (FS.op .sub HFq4.out HFq5.out W5)
        rw [e1] at HFq6
        have HBW6 : Hid (Below W0.heap.size W0 W6) := hid (by rw [← e2]; exact HBW5.out.trans (fw_below _ _ _ _ _))
        clear e1 e2
        go_upto_region 33 with (fail)
        obtain ⟨q7, W7, e1, e2⟩ : ∃ v W, fb .quo q3 q6 W6 = v ∧ fw .quo q3 q6 W6 = W := ⟨_, _, rfl, rfl⟩
        rw [e1, e2]
        have HFq7 := hid (FS.op .quo HFq3.out HFq6.out W6)
        rw [e1] at HFq7
        have HBW7 : Hid (Below W0.heap.size W0 W7) := hid (by rw [← e2]; exact HBW6.out.trans (fw_below _ _ _ _ _))
        clear e1 e2
        go_upto_region 34 with (fail)
        obtain ⟨q8, W8, e1, e2⟩ : ∃ v W, fb .mul q7 sx W7 = v ∧ fw .mul q7 sx W7 = W := ⟨_, _, rfl, rfl⟩
        rw [e1, e2]
        have HFq8 := hid (FS.op .mul HFq7.out HS.out.x W7)
        rw [e1] at HFq8
        have HBW8 : Hid (Below W0.heap.size W0 W8) := hid (by rw [← e2]; exact HBW7.out.trans (fw_below _ _ _ _ _))
        clear e1 e2
        go_upto_region 35 with (fail)
        obtain ⟨q9, W9, e1, e2⟩ : ∃ v W, fb .sub sy q8 W8 = v ∧ fw .sub sy q8 W8 = W := ⟨_, _, rfl, rfl⟩
        rw [e1, e2]
        have HFq9 := hid (FS.op .sub HS.out.y HFq8.out W8)
        rw [e1] at HFq9
        have HBW9 : Hid (Below W0.heap.size W0 W9) := hid (by rw [← e2]; exact HBW8.out.trans (fw_below _ _ _ _ _))
        clear e1 e2
        obtain ⟨s1, W10, e1, e2⟩ : ∃ v W, fb .quo q9 n W9 = v ∧ fw .quo q9 n W9 = W := ⟨_, _, rfl, rfl⟩
        have HFs1 := hid (FS.op .quo HFq9.out HCN.out W9)
        rw [e1] at HFs1
        have HBW10 : Hid (Below W0.heap.size W0 W10) := hid (by rw [← e2]; exact HBW9.out.trans (fw_below _ _ _ _ _))
        have CR := hid (fun W => right_spec q7 s1 W)
        have HDR : Hid (drB q7 s1 = drO (rateO ks) (offO ks)) := hid (drO_of (o := rateO ks) (p := offO ks) HFq7.out HFs1.out)
        go_upto_region 36 with (fail)
        clear e1 e2
        obtain ⟨W11, e3⟩ : ∃ W, W = W10.alloc (.cells #[.float .f64 q7, .float .f64 s1] 34) := ⟨_, rfl⟩
        have HBW11 : Hid (Below W0.heap.size W0 W11) := hid (by rw [e3]; exact HBW10.out.alloc HBW10.out.size _)
        have HCC : Hid (∀ W, Below W11.heap.size W11 W → W.cell? ⟨W10.heap.size, 0, none⟩ = some (.float .f64 q7) ∧ W.cell? ⟨W10.heap.size, 1, none⟩ = some (.float .f64 s1)) := hid (fun W h => by rw [e3] at h; exact dcell W10 W q7 s1 _ h)
        obtain ⟨j0, j1⟩ := HCC.out W11 (Below.refl _ _)
        rw [← e3]
        clear e3 k0 k1 k2 k3 f0 f1
        cases hd : drO (rateO ks) (offO ks) with
        | false =>
          rw [hd] at HDR
          rw [HDR.out] at CR
          have HFIT : Hid (fitO zs = none) := hid (by rw [HQT.out, hd, if_neg (fun h => by cases h.2.2)])
          go_wp2_with (go_at_call 42; refine (CR.out _).mono ?_; rintro e w5 ⟨rfl, hb5⟩; refine Hid.out ?_)
          refine hid ?_
          have HB5 := hid (HBW11.out.trans (hb5.mono HBW11.out.size))
          obtain ⟨k0, k1, f0, f1⟩ := (HD.out _ HB5.out).1.facts
          obtain ⟨k2, k3, _, _⟩ := (HD.out _ HB5.out).2.facts
          clear hb5
          go_wp2
          refine bodyPost_ret (v := .tuple #[.agg #[.float .f64 0, .float .f64 0], .bool false]) (by simp [results, Try.results14, go_sem, k0, k1]) rfl (fit_post 0 0 false rfl (by rw [HFIT.out]; exact ⟨rfl, rfl, rfl⟩) ?_)
          repeat (first | exact Below.refl _ _ | exact HB0.out.trans (HB5.out.mono HB0.out.size) | (refine Below.setCell ?_ (by first | (simp; done) | (simp; omega)) _) | (refine Below.alloc ?_ (by first | (simp; done) | (simp; omega)) _))
        | true =>
          rw [hd] at HDR
          rw [HDR.out] at CR
          have HFIT : Hid (fitO zs = some (rateO ks, offO ks)) := hid (by rw [HQT.out, hd, if_pos ⟨rfl, by omega, rfl⟩])
          go_wp2_with (go_at_call 42; refine (CR.out _).mono ?_; rintro e w5 ⟨rfl, hb5⟩; refine Hid.out ?_)
          refine hid ?_
          have HB5 := hid (HBW11.out.trans (hb5.mono HBW11.out.size))
          obtain ⟨k0, k1, f0, f1⟩ := (HD.out _ HB5.out).1.facts
          obtain ⟨k2, k3, _, _⟩ := (HD.out _ HB5.out).2.facts
          obtain ⟨l0, l1⟩ := HCC.out _ hb5
          clear hb5 j0 j1
          go_wp2
          refine bodyPost_ret (v := .tuple #[.agg #[.float .f64 q7, .float .f64 s1], .bool true]) (by simp [results, Try.results14, go_sem, k0, k1]) rfl (fit_post q7 s1 true rfl (by rw [HFIT.out]; exact ⟨rfl, HFq7.out, HFs1.out⟩) ?_)
          repeat (first | exact Below.refl _ _ | exact HB0.out.trans (HB5.out.mono HB0.out.size) | (refine Below.setCell ?_ (by first | (simp; done) | (simp; omega)) _) | (refine Below.alloc ?_ (by first | (simp; done) | (simp; omega)) _))
end Go.Proofs.Ythpnlhbfginkjaa
