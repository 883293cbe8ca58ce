/- Laid together: CheckSpec, CheckImpl, CheckBoth, ChainBoth. -/
import Derived.Test.YtponjghppnpnhaaDoorIsOf
import Derived.Test.YtponjghppnpnhaaDoorChecksRun
import Derived.Test.YtponjghppnpnhaaDoorRowCert
import Derived.OwnWalk

namespace Go.Proofs.YtponjghppnpnhaaDoor
open Go.RowKit
open Go.Lib (hid)

theorem sign_parts {sign : ByteArray} (h : (nodeOf sign).1 = 5) : ∃ p t, nodeOf sign = (5, [p, t]) ∧ p.length ≤ 13 := by
  obtain ⟨k, ps, hn⟩ : ∃ k ps, nodeOf sign = (k, ps) := ⟨_, _, rfl⟩
  rw [hn] at h
  dsimp only at h
  subst h
  obtain ⟨_, hsh⟩ := node_brk hn (by omega)
  unfold shapeB at hsh
  simp only [Bool.and_eq_true, decide_eq_true_eq] at hsh
  have hl := hsh.1
  rw [show leastOf 5 = 2 from rfl, show mostOf 5 = 2 from rfl] at hl
  have hsec := hsh.2
  rw [show firstOf 5 = true from rfl] at hsec
  match ps, hl with
  | [p, t], _ => exact ⟨p, t, hn, secret_size (by simpa using hsec)⟩

theorem pub_test (p : List UInt8) (issuer : ByteArray) : (((⟨#[40, 112, 117, 98, 32]⟩ : ByteArray) ++ bytesOf p ++ ⟨#[41]⟩).toList == issuer.toList) = decide (tmWith 6 [p] = issuer.data.toList) := by
  have e : ((⟨#[40, 112, 117, 98, 32]⟩ : ByteArray) ++ bytesOf p ++ ⟨#[41]⟩) = bytesOf (tmWith 6 [p]) := by
    have h1 := Num.cat_bytes [40, 112, 117, 98, 32] p
    have h2 := Num.cat_bytes ([40, 112, 117, 98, 32] ++ p) [41]
    show (⟨[40, 112, 117, 98, 32].toArray⟩ : ByteArray) ++ ⟨p.toArray⟩ ++ ⟨[41].toArray⟩ = _
    rw [h1, h2]
    unfold bytesOf tmWith
    simp [glue, wordOf]
  rw [e, Lib.toList_data, Lib.toList_data, bytesOf_list]
  by_cases h : tmWith 6 [p] = issuer.data.toList
  · rw [decide_eq_true h, h]; simp
  · rw [decide_eq_false h]; simpa using h

theorem spec_is_not {issuer name key : ByteArray} {f u : Int} {sign : ByteArray} (h : (nodeOf sign).1 ≠ 5) : specIsB issuer name key f u sign = false := by
  unfold specIsB
  rw [decide_eq_false h, Bool.false_and]

theorem spec_is {issuer name key : ByteArray} {f u : Int} {sign : ByteArray} {p t : List UInt8} (h : nodeOf sign = (5, [p, t])) : specIsB issuer name key f u sign = (decide (tmWith 6 [p] = issuer.data.toList) && ((certO p name key f u).1 && decide ((certO p name key f u).2 = sign.data.toList))) := by
  unfold specIsB
  rw [h]
  rfl

set_option maxRecDepth 20000 in
set_option maxHeartbeats 4000000 in
theorem check_spec (name key : ByteArray) (f u : Int) (sign issuer : ByteArray) (now : Int) (hk : key.size ≤ 1048576) (hs : sign.size ≤ 1048576) (w : World) :
    Calls Tryd.prog 18 #[.agg #[.string name, .string key, .int .i64 f, .int .i64 u, .string sign], .string issuer, .int .i64 now] w fun e w' => e = .returned (.int .i64 (checkO name key f u sign issuer now)) ∧ Below w.heap.size w w' := by
  have HCO : Hid (checkO name key f u sign issuer now = if cformB name key f u sign = true then (if specIsB issuer name key f u sign = true then (if now < f then 3 else if u < now then 4 else 0) else 2) else 1) := hid (by unfold checkO; rw [is_both])
  generalize checkO name key f u sign issuer now = r at *
  have CF := hid (fun W => cform_spec name key f u sign hk hs W)
  have CP := hid (fun W => parts_spec sign W hs)
  have CK := hid (fun W => kind_spec sign W hs)
  have HNOT := hid (spec_is_not (issuer := issuer) (name := name) (key := key) (f := f) (u := u) (sign := sign))
  have HIS := hid (fun p t h => spec_is (issuer := issuer) (name := name) (key := key) (f := f) (u := u) (sign := sign) (p := p) (t := t) h)
  have HPT := hid (fun p => pub_test p issuer)
  have CB0 := hid (fun p W => certby_spec (bytesOf p) name key f u hk W)
  have HE := hid (fun (y : ByteArray) W => cert_neq name key f u y sign W)
  have HST := hid (fun p => sign_test (certO p name key f u).2 sign)
  have HSP := hid (fun h => sign_parts (sign := sign) h)
  generalize cformB name key f u sign = fb at *
  generalize specIsB issuer name key f u sign = sb at *
  clear hk hs
  have HB0_0 : Hid (Below w.heap.size w w) := hid (Below.refl _ _)
  have hz0 : w.heap.size ≤ w.heap.size := Nat.le_refl _
  obtain ⟨w1, hw1⟩ : ∃ W, W = w.alloc (.cells #[.string name, .string key, .int .i64 f, .int .i64 u, .string sign] 33) := ⟨_, rfl⟩
  have hb1 : Below w.heap.size w w1 := by rw [hw1]; exact (Below.refl _ _).alloc (Nat.le_refl _) _
  have hz1 : w.heap.size < w1.heap.size := by rw [hw1]; simp
  have HVC_1 : Hid (w1.heap[w.heap.size]? = some (.cells #[.string name, .string key, .int .i64 f, .int .i64 u, .string sign] 33)) := hid (by rw [hw1]; exact heap_alloc_new _ _)
  have HW1 := hid hw1
  have HB0_1 := hid (HB0_0.out.trans (hb1.mono HB0_0.out.size))
  clear hw1 hb1
  cases fb with
  | false =>
    go_enter Tryd.func18, Tryd.ntmps18
    go_wp2_with (go_at_call 62; rw [← HW1.out]; refine (CF.out _).mono ?_; rintro e w2 ⟨rfl, hb2⟩; refine Hid.out ?_)
    refine hid ?_
    have hz2 := hb2.size
    have HB0_2 := hid (HB0_1.out.trans (hb2.mono HB0_1.out.size))
    have HVC_2 := hid ((hb2.block _ (by omega)).trans HVC_1.out)
    clear HB0_1 HVC_1
    clear hb2
    go_wp2
    go_ret
    exact ⟨by rw [HCO.out, if_neg (by decide)]; rfl, HB0_2.out⟩
  | true =>
    rw [if_pos rfl] at HCO
    by_cases h5 : (nodeOf sign).1 = 5
    · obtain ⟨p, t, hnd, hpl⟩ := HSP.out h5
      have HO := hid (HIS.out p t hnd)
      have HPT2 := hid (HPT.out p)
      have CB := hid (CB0.out p)
      rw [bytesOf_list] at CB
      have HST2 := hid (HST.out p)
      have hbl : (bytesOf p).size ≤ 13 := by rw [bytesOf_size]; exact hpl
      have HV0 := hid (fun h => certV_true (name := name) (key := key) (f := f) (u := u) (o := certO p name key f u) h)
      obtain ⟨q0, q1, q2, q3, q4, hv⟩ := certV_parts name key f u (certO p name key f u)
      rw [hv] at CB HV0
      rw [hnd] at CP CK
      dsimp only at CP CK
      generalize (certO p name key f u).1 = ok at *
      generalize (certO p name key f u).2 = ct at *
      clear hv hnd h5 HNOT HIS HPT CB0 HST HSP
      generalize decide (tmWith 6 [p] = issuer.data.toList) = pb at *
      cases pb with
      | false =>
        have hpt := HPT2.out
        go_enter Tryd.func18, Tryd.ntmps18
        go_wp2_with (go_at_call 62; rw [← HW1.out]; refine (CF.out _).mono ?_; rintro e w2 ⟨rfl, hb2⟩; refine Hid.out ?_)
        refine hid ?_
        have hz2 := hb2.size
        have HB0_2 := hid (HB0_1.out.trans (hb2.mono HB0_1.out.size))
        have HVC_2 := hid ((hb2.block _ (by omega)).trans HVC_1.out)
        clear HB0_1 HVC_1
        clear hb2
        have k_C_0 := (cell_of_row _ _ 0 _ _ _ HVC_2.out).trans rfl
        have k_C_1 := (cell_of_row _ _ 1 _ _ _ HVC_2.out).trans rfl
        have k_C_2 := (cell_of_row _ _ 2 _ _ _ HVC_2.out).trans rfl
        have k_C_3 := (cell_of_row _ _ 3 _ _ _ HVC_2.out).trans rfl
        have k_C_4 := (cell_of_row _ _ 4 _ _ _ HVC_2.out).trans rfl
        go_wp2_with (go_at_call 63; refine (CP.out _).mono ?_; rintro e w3 ⟨sv3, rfl, hb3, ho3⟩; refine Hid.out ?_)
        refine hid ?_
        clear k_C_0 k_C_1 k_C_2 k_C_3 k_C_4
        have hz3 := hb3.size
        have HB0_3 := hid (HB0_2.out.trans (hb3.mono HB0_2.out.size))
        have HVC_3 := hid ((hb3.block _ (by omega)).trans HVC_2.out)
        clear HB0_2 HVC_2
        obtain ⟨pp, cc, rfl, hpp⟩ := texts_of ho3
        obtain ⟨g, rfl, hg, hcc⟩ := hpp (by simp)
        have HP0 : Hid (w3.cell? ⟨g, 0, none⟩ = some (.string (bytesOf p))) := hid (hcc 0 (by simp))
        clear ho3 hpp hcc
        clear hb3
        have k_C_0 := (cell_of_row _ _ 0 _ _ _ HVC_3.out).trans rfl
        have k_C_1 := (cell_of_row _ _ 1 _ _ _ HVC_3.out).trans rfl
        have k_C_2 := (cell_of_row _ _ 2 _ _ _ HVC_3.out).trans rfl
        have k_C_3 := (cell_of_row _ _ 3 _ _ _ HVC_3.out).trans rfl
        have k_C_4 := (cell_of_row _ _ 4 _ _ _ HVC_3.out).trans rfl
        go_wp2_with (go_at_call 64; refine (CK.out _).mono ?_; rintro e w4 ⟨rfl, hb4⟩; refine Hid.out ?_)
        refine hid ?_
        clear k_C_0 k_C_1 k_C_2 k_C_3 k_C_4
        have hz4 := hb4.size
        have HB0_4 := hid (HB0_3.out.trans (hb4.mono HB0_3.out.size))
        have HVC_4 := hid ((hb4.block _ (by omega)).trans HVC_3.out)
        clear HB0_3 HVC_3
        have hgl : g < w4.heap.size := by omega
        have HP1 := hid ((hb4.cell (p := ⟨g, 0, none⟩) hg).trans HP0.out)
        clear hb4 HP0
        have p0 := HP1.out
        go_wp2
        go_ret
        exact ⟨by rw [HCO.out, HO.out, Bool.false_and]; rfl, HB0_4.out⟩
      | true =>
        have hpt := HPT2.out
        rw [Bool.true_and] at HO
        go_enter Tryd.func18, Tryd.ntmps18
        go_wp2_with (go_at_call 62; rw [← HW1.out]; refine (CF.out _).mono ?_; rintro e w2 ⟨rfl, hb2⟩; refine Hid.out ?_)
        refine hid ?_
        have hz2 := hb2.size
        have HB0_2 := hid (HB0_1.out.trans (hb2.mono HB0_1.out.size))
        have HVC_2 := hid ((hb2.block _ (by omega)).trans HVC_1.out)
        clear HB0_1 HVC_1
        clear hb2
        have k_C_0 := (cell_of_row _ _ 0 _ _ _ HVC_2.out).trans rfl
        have k_C_1 := (cell_of_row _ _ 1 _ _ _ HVC_2.out).trans rfl
        have k_C_2 := (cell_of_row _ _ 2 _ _ _ HVC_2.out).trans rfl
        have k_C_3 := (cell_of_row _ _ 3 _ _ _ HVC_2.out).trans rfl
        have k_C_4 := (cell_of_row _ _ 4 _ _ _ HVC_2.out).trans rfl
        go_wp2_with (go_at_call 63; refine (CP.out _).mono ?_; rintro e w3 ⟨sv3, rfl, hb3, ho3⟩; refine Hid.out ?_)
        refine hid ?_
        clear k_C_0 k_C_1 k_C_2 k_C_3 k_C_4
        have hz3 := hb3.size
        have HB0_3 := hid (HB0_2.out.trans (hb3.mono HB0_2.out.size))
        have HVC_3 := hid ((hb3.block _ (by omega)).trans HVC_2.out)
        clear HB0_2 HVC_2
        obtain ⟨pp, cc, rfl, hpp⟩ := texts_of ho3
        obtain ⟨g, rfl, hg, hcc⟩ := hpp (by simp)
        have HP0 : Hid (w3.cell? ⟨g, 0, none⟩ = some (.string (bytesOf p))) := hid (hcc 0 (by simp))
        clear ho3 hpp hcc
        clear hb3
        have k_C_0 := (cell_of_row _ _ 0 _ _ _ HVC_3.out).trans rfl
        have k_C_1 := (cell_of_row _ _ 1 _ _ _ HVC_3.out).trans rfl
        have k_C_2 := (cell_of_row _ _ 2 _ _ _ HVC_3.out).trans rfl
        have k_C_3 := (cell_of_row _ _ 3 _ _ _ HVC_3.out).trans rfl
        have k_C_4 := (cell_of_row _ _ 4 _ _ _ HVC_3.out).trans rfl
        go_wp2_with (go_at_call 64; refine (CK.out _).mono ?_; rintro e w4 ⟨rfl, hb4⟩; refine Hid.out ?_)
        refine hid ?_
        clear k_C_0 k_C_1 k_C_2 k_C_3 k_C_4
        have hz4 := hb4.size
        have HB0_4 := hid (HB0_3.out.trans (hb4.mono HB0_3.out.size))
        have HVC_4 := hid ((hb4.block _ (by omega)).trans HVC_3.out)
        clear HB0_3 HVC_3
        have hgl : g < w4.heap.size := by omega
        have HP1 := hid ((hb4.cell (p := ⟨g, 0, none⟩) hg).trans HP0.out)
        clear hb4 HP0
        have p0 := HP1.out
        go_wp2_with (fail)
        clear p0 hpt
        go_cut [8, 9] (fun pv ov wx => ∃ b, pv = .pointer (some ⟨b, 0, none⟩) ∧ ov = .bool ok ∧ w4.heap.size ≤ b ∧ b < wx.heap.size ∧ Hid (wx.heap[b]? = some (.cells #[.string q0, .string q1, .int .i64 q2, .int .i64 q3, .string q4] 33)) ∧ Hid (Below w4.heap.size w4 wx))
        case first =>
          have c0 : ∀ W : World, Below w4.heap.size w4 W → W.cell? ⟨w.heap.size, 0, none⟩ = some (.string name) := fun W hW => (cell_of_row _ _ 0 _ _ _ ((hW.block _ (by omega)).trans HVC_4.out)).trans rfl
          have c1 : ∀ W : World, Below w4.heap.size w4 W → W.cell? ⟨w.heap.size, 1, none⟩ = some (.string key) := fun W hW => (cell_of_row _ _ 1 _ _ _ ((hW.block _ (by omega)).trans HVC_4.out)).trans rfl
          have c2 : ∀ W : World, Below w4.heap.size w4 W → W.cell? ⟨w.heap.size, 2, none⟩ = some (.int .i64 f) := fun W hW => (cell_of_row _ _ 2 _ _ _ ((hW.block _ (by omega)).trans HVC_4.out)).trans rfl
          have c3 : ∀ W : World, Below w4.heap.size w4 W → W.cell? ⟨w.heap.size, 3, none⟩ = some (.int .i64 u) := fun W hW => (cell_of_row _ _ 3 _ _ _ ((hW.block _ (by omega)).trans HVC_4.out)).trans rfl
          have t0 : ∀ W : World, Below w4.heap.size w4 W → W.cell? ⟨g, 0, none⟩ = some (.string (bytesOf p)) := fun W hW => (hW.cell (p := ⟨g, 0, none⟩) hgl).trans HP1.out
          go_region_held3 (fun w' => Below w4.heap.size w4 w') (first | with_reducible assumption | exact Below.drew (Below.refl _ _) | exact Below.alloc (Below.drew (Below.refl _ _)) (by simp) _ | exact hS1 | exact Below.alloc hS1 hS1.size _ | exact c5_below hS1 (Nat.le_refl _) _ _ _ _ _ | (fail "no")) ((go_at_call 65; refine (CB.out _).mono ?_; rintro e x1 ⟨rfl, hy1⟩; have hS1 : Below w4.heap.size w4 x1 := (by first | exact below_go (Below.drew (Below.refl _ _)) (Nat.le_refl _) hy1 | exact below_go (Below.alloc (Below.drew (Below.refl _ _)) (by simp) _) (Nat.le_refl _) hy1); first | (have hbk : x1.heap[w4.heap.size]? = some (.cells #[.string ⟨#[]⟩, .string ⟨#[]⟩, .int .i64 0, .int .i64 0, .string ⟨#[]⟩] 33) := (hy1.block _ (by simp)).trans (heap_alloc_new _ _); obtain ⟨z0, z1, z2, z3, z4⟩ := c5_cells hbk; have f0 := c5_thaw hbk 0; have f1 := c5_thaw hbk 1; have f2 := c5_thaw hbk 2; have f3 := c5_thaw hbk 3; have f4 := c5_thaw hbk 4) | skip))
          · go_wp2_with (fail)
            go_meet
            case rel => exact ⟨_, rfl, rfl, hS1.size, by simp, hid (heap_alloc_new _ _), hid (hS1.alloc hS1.size _)⟩
          · go_wp2_with (fail)
            go_meet
            case rel => exact ⟨_, rfl, rfl, Nat.le_refl _, by simp; have := hy1.size; simp at this; omega, hid (c5_put hbk _ _ _ _ _), hid (c5_below hS1 (Nat.le_refl _) _ _ _ _ _)⟩
        case rest =>
          obtain ⟨b, rfl, rfl, hb3, hb4, HKB, HBB⟩ := hcut
          have HBF := hid (HB0_4.out.trans (HBB.out.mono HB0_4.out.size))
          have HCC := hid ((HBB.out.block _ (by omega)).trans HVC_4.out)
          obtain ⟨l0, l1, l2, l3, l4⟩ := c5_cells HCC.out
          cases ok with
          | false =>
            go_wp2
            go_ret
            exact ⟨by rw [HCO.out, HO.out, Bool.false_and]; rfl, HBF.out⟩
          | true =>
            have hq := HV0.out rfl
            simp only [Value.agg.injEq, Array.mk.injEq, List.cons.injEq, Value.string.injEq, Value.int.injEq, true_and, and_true] at hq
            obtain ⟨rfl, rfl, rfl, rfl, rfl⟩ := hq
            obtain ⟨k0, k1, k2, k3, k4⟩ := c5_cells HKB.out
            have hce := HE.out (bytesOf ct)
            have HSD := hid HST2.out
            rw [Bool.true_and, ← HSD.out] at HO
            cases hsd : ((bytesOf ct).toList == sign.toList) with
            | false =>
              rw [hsd] at HO
              simp only [hsd, Bool.not_false] at hce
              go_wp2
              go_ret
              exact ⟨by rw [HCO.out, HO.out]; rfl, HBF.out⟩
            | true =>
              rw [hsd] at HO
              simp only [hsd, Bool.not_true] at hce
              rw [HO.out, if_pos rfl] at HCO
              by_cases h1 : now < q2
              · rw [if_pos h1] at HCO
                go_wp2
                go_ret
                exact ⟨by rw [HCO.out]; rfl, HBF.out⟩
              · rw [if_neg h1] at HCO
                by_cases h2 : q3 < now
                · rw [if_pos h2] at HCO
                  go_wp2
                  go_ret
                  exact ⟨by rw [HCO.out]; rfl, HBF.out⟩
                · rw [if_neg h2] at HCO
                  go_wp2
                  go_ret
                  exact ⟨by rw [HCO.out]; rfl, HBF.out⟩
    · have hk5 : (((nodeOf sign).1 : Nat) : Int) ≠ 5 := by omega
      have HK5 : Hid (((((nodeOf sign).1 : Nat) : Int) != 5) = true) := hid (by simpa using hk5)
      have HS0 : Hid (sb = false) := hid (HNOT.out h5)
      clear h5 hk5 HNOT HIS HPT CB0 HST HSP HE
      have hkk := HK5.out
      generalize (nodeOf sign).1 = kk at *
      go_enter Tryd.func18, Tryd.ntmps18
      go_wp2_with (go_at_call 62; rw [← HW1.out]; refine (CF.out _).mono ?_; rintro e w2 ⟨rfl, hb2⟩; refine Hid.out ?_)
      refine hid ?_
      have hz2 := hb2.size
      have HB0_2 := hid (HB0_1.out.trans (hb2.mono HB0_1.out.size))
      have HVC_2 := hid ((hb2.block _ (by omega)).trans HVC_1.out)
      clear HB0_1 HVC_1
      clear hb2
      have k_C_0 := (cell_of_row _ _ 0 _ _ _ HVC_2.out).trans rfl
      have k_C_1 := (cell_of_row _ _ 1 _ _ _ HVC_2.out).trans rfl
      have k_C_2 := (cell_of_row _ _ 2 _ _ _ HVC_2.out).trans rfl
      have k_C_3 := (cell_of_row _ _ 3 _ _ _ HVC_2.out).trans rfl
      have k_C_4 := (cell_of_row _ _ 4 _ _ _ HVC_2.out).trans rfl
      go_wp2_with (go_at_call 63; refine (CP.out _).mono ?_; rintro e w3 ⟨sv3, rfl, hb3, ho3⟩; refine Hid.out ?_)
      refine hid ?_
      clear k_C_0 k_C_1 k_C_2 k_C_3 k_C_4
      have hz3 := hb3.size
      have HB0_3 := hid (HB0_2.out.trans (hb3.mono HB0_2.out.size))
      have HVC_3 := hid ((hb3.block _ (by omega)).trans HVC_2.out)
      clear HB0_2 HVC_2
      obtain ⟨pp, cc, rfl, hpp⟩ := texts_of ho3
      clear ho3 hpp
      clear hb3
      have k_C_0 := (cell_of_row _ _ 0 _ _ _ HVC_3.out).trans rfl
      have k_C_1 := (cell_of_row _ _ 1 _ _ _ HVC_3.out).trans rfl
      have k_C_2 := (cell_of_row _ _ 2 _ _ _ HVC_3.out).trans rfl
      have k_C_3 := (cell_of_row _ _ 3 _ _ _ HVC_3.out).trans rfl
      have k_C_4 := (cell_of_row _ _ 4 _ _ _ HVC_3.out).trans rfl
      go_wp2_with (go_at_call 64; refine (CK.out _).mono ?_; rintro e w4 ⟨rfl, hb4⟩; refine Hid.out ?_)
      refine hid ?_
      clear k_C_0 k_C_1 k_C_2 k_C_3 k_C_4
      have hz4 := hb4.size
      have HB0_4 := hid (HB0_3.out.trans (hb4.mono HB0_3.out.size))
      have HVC_4 := hid ((hb4.block _ (by omega)).trans HVC_3.out)
      clear HB0_3 HVC_3
      clear hb4
      go_wp2
      go_ret
      exact ⟨by rw [HCO.out, HS0.out]; rfl, HB0_4.out⟩
end Go.Proofs.YtponjghppnpnhaaDoor

namespace Go.Proofs.YtponjghppnpnhaaDoor
open Go.RowKit
open Go.Lib (hid)

def BoxAt (b : Nat) (x : Value) (w : World) : Prop := b < w.heap.size ∧ w.cell? ⟨b, 0, none⟩ = some x
theorem BoxAt.on {b : Nat} {x : Value} {w w' : World} (h : BoxAt b x w) (hb : Below w.heap.size w w') : BoxAt b x w' := ⟨Nat.lt_of_lt_of_le h.1 hb.size, at_on hb h.1 h.2⟩

def OneAt (issuer : ByteArray) (w : World) (v : Value) : Prop := ThenAt FormAt (SignAt issuer) w v
theorem OneAt.on {issuer : ByteArray} {w w' : World} {v : Value} (h : OneAt issuer w v) (hb : Below w.heap.size w w') : OneAt issuer w' v := ThenAt.on (X := FormAt) (Y := SignAt issuer) FormAt.on SignAt.on h hb

def TwoAt (issuer : ByteArray) (now : Int) (w : World) (v : Value) : Prop := ThenAt (ThenAt FormAt (SignAt issuer)) (EarlyAt now) w v
theorem TwoAt.on {issuer : ByteArray} {now : Int} {w w' : World} {v : Value} (h : TwoAt issuer now w v) (hb : Below w.heap.size w w') : TwoAt issuer now w' v := ThenAt.on (X := ThenAt FormAt (SignAt issuer)) (Y := EarlyAt now) (fun h hb => OneAt.on h hb) EarlyAt.on h hb

def AllAt (issuer : ByteArray) (now : Int) (w : World) (v : Value) : Prop := ThenAt (ThenAt (ThenAt FormAt (SignAt issuer)) (EarlyAt now)) (LateAt now) w v
theorem AllAt.on {issuer : ByteArray} {now : Int} {w w' : World} {v : Value} (h : AllAt issuer now w v) (hb : Below w.heap.size w w') : AllAt issuer now w' v := ThenAt.on (X := ThenAt (ThenAt FormAt (SignAt issuer)) (EarlyAt now)) (Y := LateAt now) (fun h hb => TwoAt.on h hb) LateAt.on h hb

set_option maxRecDepth 20000 in
set_option maxHeartbeats 4000000 in
theorem certChecks_calls (issuer : ByteArray) (now : Int) (w : World) :
    Calls Tryd.prog 66 #[.string issuer, .int .i64 now] w fun e w' => ∃ p q, e = .returned (.func (.func 163) #[] #[.pointer (some ⟨p, 0, none⟩), .pointer (some ⟨q, 0, none⟩)]) ∧ AllAt issuer now w' (.func (.func 163) #[] #[.pointer (some ⟨p, 0, none⟩), .pointer (some ⟨q, 0, none⟩)]) ∧ Below w.heap.size w w' := by
  have hmf : ∀ (fn : Fn) (first cap : Array Value) (w : World), (Instr.makeFunc fn first cap).run Tryd.prog w = .ok (.func fn first cap) w := fun _ _ _ _ => rfl
  have HB0_0 : Hid (Below w.heap.size w w) := hid (Below.refl _ _)
  have hz0 : w.heap.size ≤ w.heap.size := Nat.le_refl _
  obtain ⟨w1, hw1⟩ : ∃ W, W = w.alloc (.cells #[.string issuer] 9) := ⟨_, rfl⟩
  have hb1 : Below w.heap.size w w1 := by rw [hw1]; exact (Below.refl _ _).alloc (Nat.le_refl _) _
  have hz1 : w.heap.size < w1.heap.size := by rw [hw1]; simp
  have HVI_1 : Hid (w1.heap[w.heap.size]? = some (.cells #[.string issuer] 9)) := hid (by rw [hw1]; exact heap_alloc_new _ _)
  have HW1 := hid hw1
  have HB0_1 := hid (HB0_0.out.trans (hb1.mono HB0_0.out.size))
  clear hw1 hb1
  obtain ⟨w2, hw2⟩ : ∃ W, W = w1.alloc (.cells #[.int .i64 now] 2) := ⟨_, rfl⟩
  have hb2 : Below w1.heap.size w1 w2 := by rw [hw2]; exact (Below.refl _ _).alloc (Nat.le_refl _) _
  have hz2 : w1.heap.size < w2.heap.size := by rw [hw2]; simp
  have HVJ_2 : Hid (w2.heap[w1.heap.size]? = some (.cells #[.int .i64 now] 2)) := hid (by rw [hw2]; exact heap_alloc_new _ _)
  have HW2 := hid hw2
  have HB0_2 := hid (HB0_1.out.trans (hb2.mono HB0_1.out.size))
  have HVI_2 := hid ((hb2.block _ (by omega)).trans HVI_1.out)
  clear HB0_1
  clear hw2 hb2
  have hw1z : w1.heap.size = w.heap.size + 1 := by rw [HW1.out]; simp
  have HFI := hid (show BoxAt w.heap.size (.string issuer) w2 from ⟨by omega, (cell_of_row _ _ 0 _ _ _ HVI_2.out).trans rfl⟩)
  have HFN := hid (show BoxAt (w.heap.size + 1) (.int .i64 now) w2 from ⟨by omega, by rw [← hw1z]; exact (cell_of_row _ _ 0 _ _ _ HVJ_2.out).trans rfl⟩)
  have HB2_2 : Hid (Below w2.heap.size w2 w2) := hid (Below.refl _ _)
  clear hw1z
  clear HVI_2 HVJ_2
  go_enter Tryd.func66, Tryd.ntmps66
  go_wp2_with (go_at_call 120; rw [← HW1.out]; rw [← HW2.out]; refine (unless_calls 121 #[.pointer (some ⟨w.heap.size, 0, none⟩)] 2 _).mono ?_; rintro e w3 ⟨b3, d3, rfl, hb3, ha3, hc3, hk3, hl3⟩; refine Hid.out ?_)
  refine hid ?_
  have hz3 := hb3.size
  have HB0_3 := hid (HB0_2.out.trans (hb3.mono HB0_2.out.size))
  have HB2_3 := hid (HB2_2.out.trans (hb3.mono HB2_2.out.size))
  clear HB0_2 HB2_2
  have HB3_3 : Hid (Below w3.heap.size w3 w3) := hid (Below.refl _ _)
  have HFS := hid (show SignAt issuer w3 (.func (.func 160) #[] #[.pointer (some ⟨b3, 0, none⟩), .pointer (some ⟨d3, 0, none⟩)]) from ⟨b3, d3, w.heap.size, rfl, ha3, hc3, (HFI.out.on HB2_3.out).1, hk3, hl3, (HFI.out.on HB2_3.out).2⟩)
  clear ha3 hc3 hk3 hl3
  clear hb3
  go_wp2_with (go_at_call 120; refine (unless_calls 123 #[.pointer (some ⟨w.heap.size + 1, 0, none⟩)] 3 _).mono ?_; rintro e w4 ⟨b4, d4, rfl, hb4, ha4, hc4, hk4, hl4⟩; refine Hid.out ?_)
  refine hid ?_
  have hz4 := hb4.size
  have HB0_4 := hid (HB0_3.out.trans (hb4.mono HB0_3.out.size))
  have HB2_4 := hid (HB2_3.out.trans (hb4.mono HB2_3.out.size))
  have HB3_4 := hid (HB3_3.out.trans (hb4.mono HB3_3.out.size))
  clear HB0_3 HB2_3 HB3_3
  have HB4_4 : Hid (Below w4.heap.size w4 w4) := hid (Below.refl _ _)
  have HFE := hid (show EarlyAt now w4 (.func (.func 160) #[] #[.pointer (some ⟨b4, 0, none⟩), .pointer (some ⟨d4, 0, none⟩)]) from ⟨b4, d4, w.heap.size + 1, rfl, ha4, hc4, (HFN.out.on HB2_4.out).1, hk4, hl4, (HFN.out.on HB2_4.out).2⟩)
  clear ha4 hc4 hk4 hl4
  clear hb4
  go_wp2_with (go_at_call 120; refine (unless_calls 124 #[.pointer (some ⟨w.heap.size + 1, 0, none⟩)] 4 _).mono ?_; rintro e w5 ⟨b5, d5, rfl, hb5, ha5, hc5, hk5, hl5⟩; refine Hid.out ?_)
  refine hid ?_
  have hz5 := hb5.size
  have HB0_5 := hid (HB0_4.out.trans (hb5.mono HB0_4.out.size))
  have HB2_5 := hid (HB2_4.out.trans (hb5.mono HB2_4.out.size))
  have HB3_5 := hid (HB3_4.out.trans (hb5.mono HB3_4.out.size))
  have HB4_5 := hid (HB4_4.out.trans (hb5.mono HB4_4.out.size))
  clear HB0_4 HB2_4 HB3_4 HB4_4
  have HB5_5 : Hid (Below w5.heap.size w5 w5) := hid (Below.refl _ _)
  have HFL := hid (show LateAt now w5 (.func (.func 160) #[] #[.pointer (some ⟨b5, 0, none⟩), .pointer (some ⟨d5, 0, none⟩)]) from ⟨b5, d5, w.heap.size + 1, rfl, ha5, hc5, (HFN.out.on HB2_5.out).1, hk5, hl5, (HFN.out.on HB2_5.out).2⟩)
  clear ha5 hc5 hk5 hl5
  clear hb5
  go_wp2_with (go_at_call 120; refine (unless_calls 125 #[] 1 _).mono ?_; rintro e w6 ⟨b6, d6, rfl, hb6, ha6, hc6, hk6, hl6⟩; refine Hid.out ?_)
  refine hid ?_
  have hz6 := hb6.size
  have HB0_6 := hid (HB0_5.out.trans (hb6.mono HB0_5.out.size))
  have HB2_6 := hid (HB2_5.out.trans (hb6.mono HB2_5.out.size))
  have HB3_6 := hid (HB3_5.out.trans (hb6.mono HB3_5.out.size))
  have HB4_6 := hid (HB4_5.out.trans (hb6.mono HB4_5.out.size))
  have HB5_6 := hid (HB5_5.out.trans (hb6.mono HB5_5.out.size))
  clear HB0_5 HB2_5 HB3_5 HB4_5 HB5_5
  have HB6_6 : Hid (Below w6.heap.size w6 w6) := hid (Below.refl _ _)
  have HFF := hid (show FormAt w6 (.func (.func 160) #[] #[.pointer (some ⟨b6, 0, none⟩), .pointer (some ⟨d6, 0, none⟩)]) from ⟨b6, d6, rfl, ha6, hc6, hk6, hl6⟩)
  clear ha6 hc6 hk6 hl6
  clear hb6
  go_wp2_with (go_at_call 126; refine (then_calls 160 160 #[.pointer (some ⟨b6, 0, none⟩), .pointer (some ⟨d6, 0, none⟩)] #[.pointer (some ⟨b3, 0, none⟩), .pointer (some ⟨d3, 0, none⟩)] _).mono ?_; rintro e w7 ⟨b7, d7, rfl, hb7, ha7, hc7, hk7, hl7⟩; refine Hid.out ?_)
  refine hid ?_
  have hz7 := hb7.size
  have HB0_7 := hid (HB0_6.out.trans (hb7.mono HB0_6.out.size))
  have HB2_7 := hid (HB2_6.out.trans (hb7.mono HB2_6.out.size))
  have HB3_7 := hid (HB3_6.out.trans (hb7.mono HB3_6.out.size))
  have HB4_7 := hid (HB4_6.out.trans (hb7.mono HB4_6.out.size))
  have HB5_7 := hid (HB5_6.out.trans (hb7.mono HB5_6.out.size))
  have HB6_7 := hid (HB6_6.out.trans (hb7.mono HB6_6.out.size))
  clear HB0_6 HB2_6 HB3_6 HB4_6 HB5_6 HB6_6
  have HB7_7 : Hid (Below w7.heap.size w7 w7) := hid (Below.refl _ _)
  have HFOne := hid (show OneAt issuer w7 (.func (.func 163) #[] #[.pointer (some ⟨b7, 0, none⟩), .pointer (some ⟨d7, 0, none⟩)]) from ⟨b7, d7, _, _, rfl, ha7, hc7, hk7, hl7, (HFF.out.on HB6_7.out), (HFS.out.on HB3_7.out)⟩)
  clear ha7 hc7 hk7 hl7
  clear hb7
  go_wp2_with (go_at_call 126; refine (then_calls 163 160 #[.pointer (some ⟨b7, 0, none⟩), .pointer (some ⟨d7, 0, none⟩)] #[.pointer (some ⟨b4, 0, none⟩), .pointer (some ⟨d4, 0, none⟩)] _).mono ?_; rintro e w8 ⟨b8, d8, rfl, hb8, ha8, hc8, hk8, hl8⟩; refine Hid.out ?_)
  refine hid ?_
  have hz8 := hb8.size
  have HB0_8 := hid (HB0_7.out.trans (hb8.mono HB0_7.out.size))
  have HB2_8 := hid (HB2_7.out.trans (hb8.mono HB2_7.out.size))
  have HB3_8 := hid (HB3_7.out.trans (hb8.mono HB3_7.out.size))
  have HB4_8 := hid (HB4_7.out.trans (hb8.mono HB4_7.out.size))
  have HB5_8 := hid (HB5_7.out.trans (hb8.mono HB5_7.out.size))
  have HB6_8 := hid (HB6_7.out.trans (hb8.mono HB6_7.out.size))
  have HB7_8 := hid (HB7_7.out.trans (hb8.mono HB7_7.out.size))
  clear HB0_7 HB2_7 HB3_7 HB4_7 HB5_7 HB6_7 HB7_7
  have HB8_8 : Hid (Below w8.heap.size w8 w8) := hid (Below.refl _ _)
  have HFTwo := hid (show TwoAt issuer now w8 (.func (.func 163) #[] #[.pointer (some ⟨b8, 0, none⟩), .pointer (some ⟨d8, 0, none⟩)]) from ⟨b8, d8, _, _, rfl, ha8, hc8, hk8, hl8, (HFOne.out.on HB7_8.out), (HFE.out.on HB4_8.out)⟩)
  clear ha8 hc8 hk8 hl8
  clear hb8
  go_wp2_with (go_at_call 126; refine (then_calls 163 160 #[.pointer (some ⟨b8, 0, none⟩), .pointer (some ⟨d8, 0, none⟩)] #[.pointer (some ⟨b5, 0, none⟩), .pointer (some ⟨d5, 0, none⟩)] _).mono ?_; rintro e w9 ⟨b9, d9, rfl, hb9, ha9, hc9, hk9, hl9⟩; refine Hid.out ?_)
  refine hid ?_
  have hz9 := hb9.size
  have HB0_9 := hid (HB0_8.out.trans (hb9.mono HB0_8.out.size))
  have HB2_9 := hid (HB2_8.out.trans (hb9.mono HB2_8.out.size))
  have HB3_9 := hid (HB3_8.out.trans (hb9.mono HB3_8.out.size))
  have HB4_9 := hid (HB4_8.out.trans (hb9.mono HB4_8.out.size))
  have HB5_9 := hid (HB5_8.out.trans (hb9.mono HB5_8.out.size))
  have HB6_9 := hid (HB6_8.out.trans (hb9.mono HB6_8.out.size))
  have HB7_9 := hid (HB7_8.out.trans (hb9.mono HB7_8.out.size))
  have HB8_9 := hid (HB8_8.out.trans (hb9.mono HB8_8.out.size))
  clear HB0_8 HB2_8 HB3_8 HB4_8 HB5_8 HB6_8 HB7_8 HB8_8
  have HB9_9 : Hid (Below w9.heap.size w9 w9) := hid (Below.refl _ _)
  have HFAll := hid (show AllAt issuer now w9 (.func (.func 163) #[] #[.pointer (some ⟨b9, 0, none⟩), .pointer (some ⟨d9, 0, none⟩)]) from ⟨b9, d9, _, _, rfl, ha9, hc9, hk9, hl9, (HFTwo.out.on HB8_9.out), (HFL.out.on HB5_9.out)⟩)
  clear ha9 hc9 hk9 hl9
  clear hb9
  go_wp2
  go_ret
  exact ⟨_, _, rfl, (HFAll.out.on HB9_9.out), HB0_9.out⟩

set_option maxRecDepth 20000 in
set_option maxHeartbeats 4000000 in
theorem check_impl (name key : ByteArray) (f u : Int) (sign issuer : ByteArray) (now : Int) (w : World) (hT : Tab w) (hG : 0 < w.heap.size) (hP : Lib.TabIs Tryd.prog w "internal/strconv.uint64pow10" .u64 Lib.pow10Tab) :
    Calls Tryd.prog 20 #[.agg #[.string name, .string key, .int .i64 f, .int .i64 u, .string sign], .string issuer, .int .i64 now] w fun e w' => e = .returned (.int .i64 (checkO name key f u sign issuer now)) ∧ Below w.heap.size w w' := by
  have HTAB := hid hT
  have HPW := hid hP
  have HCK := hid (check_chain name key f u sign issuer now)
  have CC := hid (fun W => certChecks_calls issuer now W)
  have CT := hid (fun p q x y W h1 h2 k1 k2 hx hy hT hG hP => th_three name key f u sign issuer now p q x y W h1 h2 k1 k2 hx hy hT hG hP)
  rw [HCK.out] at CT
  generalize checkO name key f u sign issuer now = r at *
  clear hT hP HCK
  have HB0_0 : Hid (Below w.heap.size w w) := hid (Below.refl _ _)
  have hz0 : w.heap.size ≤ w.heap.size := Nat.le_refl _
  obtain ⟨w1, hw1⟩ : ∃ W, W = w.alloc (.cells #[.string name, .string key, .int .i64 f, .int .i64 u, .string sign] 33) := ⟨_, rfl⟩
  have hb1 : Below w.heap.size w w1 := by rw [hw1]; exact (Below.refl _ _).alloc (Nat.le_refl _) _
  have hz1 : w.heap.size < w1.heap.size := by rw [hw1]; simp
  have HVC_1 : Hid (w1.heap[w.heap.size]? = some (.cells #[.string name, .string key, .int .i64 f, .int .i64 u, .string sign] 33)) := hid (by rw [hw1]; exact heap_alloc_new _ _)
  have HW1 := hid hw1
  have HB0_1 := hid (HB0_0.out.trans (hb1.mono HB0_0.out.size))
  clear hw1 hb1
  go_enter Tryd.func20, Tryd.ntmps20
  have c0 : ∀ W : World, Below w1.heap.size w1 W → W.cell? ⟨w.heap.size, 0, none⟩ = some (.string name) := fun W hW => (cell_of_row _ _ 0 _ _ _ ((hW.block _ (by omega)).trans HVC_1.out)).trans rfl
  have c1 : ∀ W : World, Below w1.heap.size w1 W → W.cell? ⟨w.heap.size, 1, none⟩ = some (.string key) := fun W hW => (cell_of_row _ _ 1 _ _ _ ((hW.block _ (by omega)).trans HVC_1.out)).trans rfl
  have c2 : ∀ W : World, Below w1.heap.size w1 W → W.cell? ⟨w.heap.size, 2, none⟩ = some (.int .i64 f) := fun W hW => (cell_of_row _ _ 2 _ _ _ ((hW.block _ (by omega)).trans HVC_1.out)).trans rfl
  have c3 : ∀ W : World, Below w1.heap.size w1 W → W.cell? ⟨w.heap.size, 3, none⟩ = some (.int .i64 u) := fun W hW => (cell_of_row _ _ 3 _ _ _ ((hW.block _ (by omega)).trans HVC_1.out)).trans rfl
  have c4 : ∀ W : World, Below w1.heap.size w1 W → W.cell? ⟨w.heap.size, 4, none⟩ = some (.string sign) := fun W hW => (cell_of_row _ _ 4 _ _ _ ((hW.block _ (by omega)).trans HVC_1.out)).trans rfl
  have CX := hid (fun p q W (h : Below w1.heap.size w1 W) (hA : AllAt issuer now W (.func (.func 163) #[] #[.pointer (some ⟨p, 0, none⟩), .pointer (some ⟨q, 0, none⟩)])) => show Calls Tryd.prog 163 #[.agg #[.string name, .string key, .int .i64 f, .int .i64 u, .string sign], .pointer (some ⟨p, 0, none⟩), .pointer (some ⟨q, 0, none⟩)] W fun e w' => e = .returned (.int .i64 r) ∧ Below W.heap.size W w' from by
    obtain ⟨b1, b2, x, y, he, h1, h2, k1, k2, hx, hy⟩ := hA
    injection he with _ _ he
    simp only [Array.mk.injEq, List.cons.injEq, Value.pointer.injEq, Option.some.injEq, Addr.mk.injEq, and_true] at he
    obtain ⟨rfl, rfl⟩ := he
    exact CT.out p q x y W h1 h2 k1 k2 hx hy (tab_on HTAB.out hG (HB0_1.out.trans (h.mono HB0_1.out.size))) (Nat.lt_of_lt_of_le hG (HB0_1.out.trans (h.mono HB0_1.out.size)).size) (Num.tab_stays (HB0_1.out.trans (h.mono HB0_1.out.size)) HPW.out))
  clear CT
  go_wp2_with (fail)
  rw [← HW1.out]
  go_region_held3 (fun w' => Below w1.heap.size w1 w') (first | with_reducible assumption | exact Below.drew (Below.refl _ _) | exact hS1 | exact Below.drew hS1 | exact hS2 | exact Below.drew hS2 | (fail "no")) ((first | (go_at_call 66; refine (CC.out _).mono ?_; rintro e x1 ⟨p, q, rfl, hA, hy1⟩; have hS1 : Below w1.heap.size w1 x1 := below_go (Below.drew (Below.refl _ _)) (Nat.le_refl _) hy1) | (go_at_call 163; refine (CX.out p q _ (by assumption) hA).mono ?_; rintro e x2 ⟨rfl, hy2⟩; have hS2 : Below w1.heap.size w1 x2 := below_go hS1 (Nat.le_refl _) hy2)))
  go_wp2
  go_ret
  exact ⟨rfl, HB0_1.out.trans (hS2.mono HB0_1.out.size)⟩
end Go.Proofs.YtponjghppnpnhaaDoor



namespace Go.Proofs.YtponjghppnpnhaaDoor
open Go.RowKit
open Go.Lib (hid)

/-- A chain from a place on: the key that stands last, or the first code and its place. -/
def chainGo (now : Int) : ByteArray → Int → List CertD → ByteArray × Int × Int
  | issuer, _, [] => (issuer, 0, -1)
  | issuer, i, e :: r => if checkO e.x0 e.x1 e.x2 e.x3 e.x4 issuer now = 0 then chainGo now e.x1 (i + 1) r else (⟨#[]⟩, checkO e.x0 e.x1 e.x2 e.x3 e.x4 issuer now, i)

/-- What CheckChain answers. -/
def chainO (root : ByteArray) (es : List CertD) (now : Int) : ByteArray × Int × Int :=
  if 1 ≤ es.length ∧ es.length ≤ 8 then chainGo now root 0 es else (⟨#[]⟩, 5, -1)

theorem chain_step {now : Int} {issuer : ByteArray} {es : List CertD} {i : Nat} (h : i < es.length) : chainGo now issuer i (es.drop i) = if checkO es[i].x0 es[i].x1 es[i].x2 es[i].x3 es[i].x4 issuer now = 0 then chainGo now es[i].x1 ((i + 1 : Nat) : Int) (es.drop (i + 1)) else (⟨#[]⟩, checkO es[i].x0 es[i].x1 es[i].x2 es[i].x3 es[i].x4 issuer now, (i : Int)) := by
  rw [List.drop_eq_getElem_cons h]
  rfl

theorem chain_end {now : Int} {issuer : ByteArray} {es : List CertD} {i : Int} : chainGo now issuer i (es.drop es.length) = (issuer, 0, -1) := by
  rw [List.drop_length]
  rfl

def ChainPost (root : ByteArray) (es : List CertD) (now : Int) (w : World) (e : Ending) (w' : World) : Prop :=
  e = .returned (.tuple #[.string (chainO root es now).1, .int .i64 (chainO root es now).2.1, .int .i64 (chainO root es now).2.2]) ∧ Below w.heap.size w w'

set_option maxRecDepth 20000 in
set_option maxHeartbeats 4000000 in
theorem chain_spec (root : ByteArray) (es : List CertD) (hn : es.length ≤ 1048576) (hs : ∀ e ∈ es, e.x1.size ≤ 1048576 ∧ e.x4.size ≤ 1048576) (now : Int) (a : Value) (w : World) (ha : FRow encCert 5 w a es) :
    Calls Tryd.prog 22 #[.string root, a, .int .i64 now] w (ChainPost root es now w) := by
  unfold ChainPost
  have HA := hid ha
  have HSZ := hid hs
  clear hs
  obtain ⟨p, c, rfl, _⟩ := ha
  by_cases h8 : 1 ≤ es.length ∧ es.length ≤ 8
  · have HO : Hid (chainO root es now = chainGo now root 0 es) := hid (by unfold chainO; rw [if_pos h8])
    obtain ⟨g1, g2⟩ := h8
    have d1 : ¬ (es.length : Int) < 1 := by omega
    have d2 : ¬ (es.length : Int) > 8 := by omega
    generalize chainO root es now = r at *
    go_enter Tryd.func22, Tryd.ntmps22
    go_wp2
    go_loopw [9, 10] (fun sv iv wr => ∃ (i : Nat) (iss : ByteArray), i ≤ es.length ∧ iv = .int .i64 i ∧ sv = .string iss ∧ Below w.heap.size w wr ∧ Hid (r = chainGo now iss i (es.drop i))) (fun _ iv _ => es.length - (RowKit.intOf iv).toNat)
    case atStart => exact ⟨0, root, Nat.zero_le _, rfl, rfl, Below.refl _ _, HO⟩
    case round =>
      obtain ⟨i, iss, hi, rfl, rfl, hbel, HR⟩ := hrel
      have HB := hid hbel
      by_cases hlt : i < es.length
      · have hne : es ≠ [] := fun h => by rw [h] at hlt; cases hlt
        obtain ⟨p', c', hv, _, hp⟩ := HA.out
        obtain ⟨rfl, rfl⟩ : p = p' ∧ c = c' := by injection hv with h1 h2 h3; exact ⟨h1, by omega⟩
        obtain ⟨g, o, rfl, hg, hc⟩ := hp hne
        clear hv hp
        have b1 : (0 : Int) ≤ (i : Int) := by omega
        have b2 : (i : Int) < (es.length : Int) := by omega
        have k0 : wr.cell? ⟨g, o + i * 5, none⟩ = some (.string es[i].x0) := (hbel.cell (p := ⟨g, o + i * 5, none⟩) hg).trans (hc i hlt 0 (by decide))
        have k1 : wr.cell? ⟨g, o + i * 5 + 1, none⟩ = some (.string es[i].x1) := (hbel.cell (p := ⟨g, o + i * 5 + 1, none⟩) hg).trans (hc i hlt 1 (by decide))
        have k2 : wr.cell? ⟨g, o + i * 5 + 2, none⟩ = some (.int .i64 es[i].x2) := (hbel.cell (p := ⟨g, o + i * 5 + 2, none⟩) hg).trans (hc i hlt 2 (by decide))
        have k3 : wr.cell? ⟨g, o + i * 5 + 3, none⟩ = some (.int .i64 es[i].x3) := (hbel.cell (p := ⟨g, o + i * 5 + 3, none⟩) hg).trans (hc i hlt 3 (by decide))
        have k4 : wr.cell? ⟨g, o + i * 5 + 4, none⟩ = some (.string es[i].x4) := (hbel.cell (p := ⟨g, o + i * 5 + 4, none⟩) hg).trans (hc i hlt 4 (by decide))
        have hgw : g < wr.heap.size := Nat.lt_of_lt_of_le hg hbel.size
        have HST : Hid (r = _) := hid (HR.out.trans (chain_step hlt))
        have CC := hid (fun W => check_spec es[i].x0 es[i].x1 es[i].x2 es[i].x3 es[i].x4 iss now (HSZ.out _ (List.getElem_mem hlt)).1 (HSZ.out _ (List.getElem_mem hlt)).2 W)
        clear hc hbel
        generalize es[i] = ei at *
        obtain ⟨x0, x1, x2, x3, x4⟩ := ei
        dsimp only at *
        generalize checkO x0 x1 x2 x3 x4 iss now = code at *
        by_cases hcode : code = 0
        · have HN : Hid (r = chainGo now x1 ((i + 1 : Nat) : Int) (es.drop (i + 1))) := hid (HST.out.trans (if_pos hcode))
          subst hcode
          go_wp2_with (go_at_call 18; refine (CC.out _).mono ?_; rintro e w3 ⟨rfl, hb3⟩; refine Hid.out ?_)
          refine hid ?_
          have HB3 := hid (HB.out.trans (hb3.mono HB.out.size))
          have l1 := (hb3.cell (p := ⟨g, o + i * 5 + 1, none⟩) hgw).trans k1
          clear hb3
          go_wp2
          go_roundw
          case rel => exact ⟨i + 1, x1, by omega, by go_num, rfl, HB3.out, HN⟩
          case measure => simp [RowKit.intOf]; omega
        · have HN : Hid (r = (⟨#[]⟩, code, (i : Int))) := hid (HST.out.trans (if_neg hcode))
          have hcb : (code != 0) = true := by simpa using hcode
          go_wp2_with (go_at_call 18; refine (CC.out _).mono ?_; rintro e w3 ⟨rfl, hb3⟩; refine Hid.out ?_)
          refine hid ?_
          have HB3 := hid (HB.out.trans (hb3.mono HB.out.size))
          clear hb3
          go_wp2
          go_ret3
          exact ⟨by rw [HN.out]; rfl, HB3.out⟩
      · have hie : i = es.length := by omega
        subst hie
        have HN : Hid (r = (iss, 0, -1)) := hid (HR.out.trans chain_end)
        clear hbel
        go_wp2
        go_ret3
        exact ⟨by rw [HN.out]; rfl, HB.out⟩
  · have HO : Hid (chainO root es now = (⟨#[]⟩, 5, -1)) := hid (by unfold chainO; rw [if_neg h8])
    rw [HO.out]
    by_cases g1 : 1 ≤ es.length
    · have g2 : 8 < es.length := Nat.lt_of_not_le (fun h => h8 ⟨g1, h⟩)
      have d1 : ¬ (es.length : Int) < 1 := by omega
      have d2 : (es.length : Int) > 8 := by omega
      go_enter Tryd.func22, Tryd.ntmps22
      go_wp2
      go_ret3
      exact ⟨rfl, Below.refl _ _⟩
    · have d1 : (es.length : Int) < 1 := by omega
      go_enter Tryd.func22, Tryd.ntmps22
      go_wp2
      go_ret3
      exact ⟨rfl, Below.refl _ _⟩

set_option maxRecDepth 20000 in
set_option maxHeartbeats 4000000 in
theorem chain_impl (root : ByteArray) (es : List CertD) (hn : es.length ≤ 1048576) (now : Int) (a : Value) (w : World) (ha : FRow encCert 5 w a es) (hT : Tab w) (hG : 0 < w.heap.size) (hP : Lib.TabIs Tryd.prog w "internal/strconv.uint64pow10" .u64 Lib.pow10Tab) :
    Calls Tryd.prog 24 #[.string root, a, .int .i64 now] w (ChainPost root es now w) := by
  unfold ChainPost
  have HA := hid ha
  have HTAB := hid hT
  have HPW := hid hP
  clear hT hP
  obtain ⟨p, c, rfl, _⟩ := ha
  by_cases h8 : 1 ≤ es.length ∧ es.length ≤ 8
  · have HO : Hid (chainO root es now = chainGo now root 0 es) := hid (by unfold chainO; rw [if_pos h8])
    obtain ⟨g1, g2⟩ := h8
    have d1 : ¬ (es.length : Int) < 1 := by omega
    have d2 : ¬ (es.length : Int) > 8 := by omega
    have d3 : ((es.length : Int) == 0) = false := by rw [beq_eq_false_iff_ne]; omega
    generalize chainO root es now = r at *
    go_enter Tryd.func24, Tryd.ntmps24
    go_wp2
    go_loopw [9, 24] (fun sv iv wr => ∃ (i : Nat) (iss : ByteArray), i ≤ es.length ∧ iv = .int .i64 i ∧ sv = .string iss ∧ Below w.heap.size w wr ∧ Hid (r = chainGo now iss i (es.drop i))) (fun _ iv _ => es.length - (RowKit.intOf iv).toNat)
    case atStart => exact ⟨0, root, Nat.zero_le _, rfl, rfl, Below.refl _ _, HO⟩
    case round =>
      obtain ⟨i, iss, hi, rfl, rfl, hbel, HR⟩ := hrel
      have HB := hid hbel
      by_cases hlt : i < es.length
      · have hne : es ≠ [] := fun h => by rw [h] at hlt; cases hlt
        obtain ⟨p', c', hv, _, hp⟩ := HA.out
        obtain ⟨rfl, rfl⟩ : p = p' ∧ c = c' := by injection hv with h1 h2 h3; exact ⟨h1, by omega⟩
        obtain ⟨g, o, rfl, hg, hc⟩ := hp hne
        clear hv hp
        have b1 : (0 : Int) ≤ (i : Int) := by omega
        have b2 : (i : Int) < (es.length : Int) := by omega
        have k0 : wr.cell? ⟨g, o + i * 5, none⟩ = some (.string es[i].x0) := (hbel.cell (p := ⟨g, o + i * 5, none⟩) hg).trans (hc i hlt 0 (by decide))
        have k1 : wr.cell? ⟨g, o + i * 5 + 1, none⟩ = some (.string es[i].x1) := (hbel.cell (p := ⟨g, o + i * 5 + 1, none⟩) hg).trans (hc i hlt 1 (by decide))
        have k2 : wr.cell? ⟨g, o + i * 5 + 2, none⟩ = some (.int .i64 es[i].x2) := (hbel.cell (p := ⟨g, o + i * 5 + 2, none⟩) hg).trans (hc i hlt 2 (by decide))
        have k3 : wr.cell? ⟨g, o + i * 5 + 3, none⟩ = some (.int .i64 es[i].x3) := (hbel.cell (p := ⟨g, o + i * 5 + 3, none⟩) hg).trans (hc i hlt 3 (by decide))
        have k4 : wr.cell? ⟨g, o + i * 5 + 4, none⟩ = some (.string es[i].x4) := (hbel.cell (p := ⟨g, o + i * 5 + 4, none⟩) hg).trans (hc i hlt 4 (by decide))
        have HST : Hid (r = _) := hid (HR.out.trans (chain_step hlt))
        have CC := hid (fun W (hW : Below w.heap.size w W) => check_impl es[i].x0 es[i].x1 es[i].x2 es[i].x3 es[i].x4 iss now W (tab_on HTAB.out hG hW) (Nat.lt_of_lt_of_le hG hW.size) (Num.tab_stays hW HPW.out))
        clear hc hbel
        generalize es[i] = ei at *
        obtain ⟨x0, x1, x2, x3, x4⟩ := ei
        dsimp only at *
        generalize checkO x0 x1 x2 x3 x4 iss now = code at *
        obtain ⟨W2, hW2⟩ : ∃ W2, W2 = wr.alloc (.cells #[.string x0, .string x1, .int .i64 x2, .int .i64 x3, .string x4] 33) := ⟨_, rfl⟩
        have HB2 : Hid (Below w.heap.size w W2) := hid (by rw [hW2]; exact HB.out.alloc HB.out.size _)
        have HV2 : Hid (W2.heap[wr.heap.size]? = some (.cells #[.string x0, .string x1, .int .i64 x2, .int .i64 x3, .string x4] 33)) := hid (by rw [hW2]; exact heap_alloc_new _ _)
        have hz2 : wr.heap.size < W2.heap.size := by rw [hW2]; simp
        have HW2 := hid hW2
        clear hW2
        by_cases hcode : code = 0
        · have HN : Hid (r = chainGo now x1 ((i + 1 : Nat) : Int) (es.drop (i + 1))) := hid (HST.out.trans (if_pos hcode))
          subst hcode
          go_wp2_with (go_at_call 20; rw [← HW2.out]; refine (CC.out _ HB2.out).mono ?_; rintro e w3 ⟨rfl, hb3⟩; refine Hid.out ?_)
          refine hid ?_
          have HB3 := hid (HB2.out.trans (hb3.mono HB2.out.size))
          have HV3 := hid ((hb3.block _ hz2).trans HV2.out)
          have l1 := (cell_of_row _ _ 1 _ _ _ HV3.out).trans rfl
          clear hb3
          go_wp2
          go_roundw
          case rel => exact ⟨i + 1, x1, by omega, by go_num, rfl, HB3.out, HN⟩
          case measure => simp [RowKit.intOf]; omega
        · have HN : Hid (r = (⟨#[]⟩, code, (i : Int))) := hid (HST.out.trans (if_neg hcode))
          have hcb : (code != 0) = true := by simpa using hcode
          go_wp2_with (go_at_call 20; rw [← HW2.out]; refine (CC.out _ HB2.out).mono ?_; rintro e w3 ⟨rfl, hb3⟩; refine Hid.out ?_)
          refine hid ?_
          have HB3 := hid (HB2.out.trans (hb3.mono HB2.out.size))
          clear hb3
          go_wp2
          go_ret3
          exact ⟨by rw [HN.out]; rfl, HB3.out⟩
      · have hie : i = es.length := by omega
        subst hie
        have HN : Hid (r = (iss, 0, -1)) := hid (HR.out.trans chain_end)
        clear hbel
        go_wp2
        go_ret3
        exact ⟨by rw [HN.out]; rfl, HB.out⟩
  · have HO : Hid (chainO root es now = (⟨#[]⟩, 5, -1)) := hid (by unfold chainO; rw [if_neg h8])
    rw [HO.out]
    by_cases g1 : 1 ≤ es.length
    · have g2 : 8 < es.length := Nat.lt_of_not_le (fun h => h8 ⟨g1, h⟩)
      have d1 : ¬ (es.length : Int) < 1 := by omega
      have d2 : (es.length : Int) > 8 := by omega
      have d3 : ((es.length : Int) == 0) = false := by rw [beq_eq_false_iff_ne]; omega
      go_enter Tryd.func24, Tryd.ntmps24
      go_wp2
      go_ret3
      exact ⟨rfl, Below.refl _ _⟩
    · have d1 : (es.length : Int) < 1 := by omega
      have d3 : ((es.length : Int) == 0) = true := by rw [beq_iff_eq]; omega
      go_enter Tryd.func24, Tryd.ntmps24
      go_wp2
      go_ret3
      exact ⟨rfl, Below.refl _ _⟩
end Go.Proofs.YtponjghppnpnhaaDoor
