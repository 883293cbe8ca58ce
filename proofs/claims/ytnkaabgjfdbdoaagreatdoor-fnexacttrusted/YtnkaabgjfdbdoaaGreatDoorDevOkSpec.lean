/- DeviceOk, the specification's: what RootOk and VaultOk answer comes in. -/
import Derived.Test.YtnkaabgjfdbdoaaGreatDoorDevPlain
import Derived.Test.YtnkaabgjfdbdoaaGreatDoorPackFold
import Derived.Test.YtnkaabgjfdbdoaaGreatDoorArgTexts
import Derived.Test.YtnkaabgjfdbdoaaGreatDoorPackKt
namespace Go.Proofs.YtnkaabgjfdbdoaaGreatDoor
open Go.RowKit
open Go.Lib (hid)

set_option maxRecDepth 20000 in
set_option maxHeartbeats 4000000 in
theorem devOk_spec (name key : ByteArray) (sz : Int) (l : List Int) (p1 : Option Addr) (c1 : Nat) (up : Bool) (regs : List (List UInt8)) (p2 : Option Addr) (c2 : Nat) (ss : List Unit) (p3 : Option Addr) (c3 : Nat) (st y0 y1 : Int) (y2 y3 : ByteArray) (ims : List ImageD) (p4 : Option Addr) (c4 : Nat) (es : List EventD) (hes : ∀ e ∈ es, e.x1.size ≤ 1048576) (hen : es.length ≤ 1048576) (p5 : Option Addr) (c5 : Nat) (rb vb : Bool) (w : World)
    (h2 : TextsAt w (.slice p2 regs.length c2) regs) (h4 : FRow encImage 2 w (.slice p4 ims.length c4) ims) (h5 : FRow encEvent 2 w (.slice p5 es.length c5) es) (him : ims.length ≤ 1048576)
    (CR : ∀ W, Below w.heap.size w W → Calls Tryz.prog 32 #[.agg #[.string key, .int .i64 sz, .slice p1 l.length c1, .bool up, .slice p2 regs.length c2]] W fun e w' => e = .returned (.bool rb) ∧ Below W.heap.size W w')
    (CV : ∀ W, Below w.heap.size w W → Calls Tryz.prog 33 #[.agg #[.slice p3 ss.length c3, .int .i64 st, .int .i64 y0, .int .i64 y1, .string y2, .string y3]] W fun e w' => e = .returned (.bool vb) ∧ Below W.heap.size W w') :
    Calls Tryz.prog 9 #[.agg #[.string name, .string key, .int .i64 sz, .slice p1 l.length c1, .bool up, .slice p2 regs.length c2, .slice p3 ss.length c3, .int .i64 st, .int .i64 y0, .int .i64 y1, .string y2, .string y3, .slice p4 ims.length c4, .slice p5 es.length c5]] w fun e w' => e = .returned (.bool (devB (nameB name.data.toList) rb vb up ims es regs)) ∧ Below w.heap.size w w' := by
  have HF2 := hid h2
  have HF4 := hid h4
  have HF5 := hid h5
  have CR := hid CR
  have CV := hid CV
  have CN := hid (fun W => sname_calls name W)
  have CF := hid (fun W h => fold_spec es hes hen (.slice p5 es.length c5) W h)
  unfold FoldPost at CF
  have hff := fold_few es
  have CE := hid (fun v W h1 h2 => same_calls (foldOut es).1 regs (by omega) v (.slice p2 regs.length c2) W h1 h2)
  have CI := hid (fun i (hi : i < ims.length) W => image_spec ims[i].x0 ims[i].x1 W)
  clear h2 h4 h5 hes
  have HDU := hid (fun h hi => devB_up (ims := ims) (es := es) (regs := regs) h hi)
  generalize (foldOut es).2 = fb at *
  generalize (foldOut es).1 = fl at *
  generalize nameB name.data.toList = nb at *
  have HB0_0 : Hid (Below w.heap.size w w) := hid (Below.refl _ _)
  have hz0 : w.heap.size ≤ w.heap.size := Nat.le_refl _
  go_enter Tryz.func9, Tryz.ntmps9
  obtain ⟨w1, hw1⟩ : ∃ W, W = w.alloc (.cells #[.string name, .string key, .int .i64 sz, .slice p1 l.length c1, .bool up, .slice p2 regs.length c2, .slice p3 ss.length c3, .int .i64 st, .int .i64 y0, .int .i64 y1, .string y2, .string y3, .slice p4 ims.length c4, .slice p5 es.length c5] 49) := ⟨_, rfl⟩
  have hb1 : Below w.heap.size w w1 := by rw [hw1]; exact (Below.refl _ _).alloc (Nat.le_refl _) _
  have hz1 : w.heap.size < w1.heap.size := by rw [hw1]; simp
  have HVA_1 : Hid (w1.heap[w.heap.size]? = some (.cells #[.string name, .string key, .int .i64 sz, .slice p1 l.length c1, .bool up, .slice p2 regs.length c2, .slice p3 ss.length c3, .int .i64 st, .int .i64 y0, .int .i64 y1, .string y2, .string y3, .slice p4 ims.length c4, .slice p5 es.length c5] 49)) := hid (by rw [hw1]; exact heap_alloc_new _ _)
  have HW1 := hid hw1
  have HB0_1 := hid (HB0_0.out.trans (hb1.mono HB0_0.out.size))
  clear hw1 hb1
  go_wp2_with (go_at_call 31; rw [← HW1.out]; refine (CN.out _).mono ?_; rintro e wq ⟨rfl, eq⟩; rw [eq]; clear eq wq; refine Hid.out ?_)
  refine hid ?_
  cases nb with
  | false =>
    have HZ := hid (devB_name (rb := rb) (vb := vb) (up := up) (ims := ims) (es := es) (regs := regs))
    go_wp2
    go_ret
    exact ⟨by rw [HZ.out]; rfl, HB0_1.out⟩
  | true =>
    have k_A_0 := (cell_of_row _ _ 0 _ _ _ HVA_1.out).trans rfl
    have k_A_1 := (cell_of_row _ _ 1 _ _ _ HVA_1.out).trans rfl
    have k_A_2 := (cell_of_row _ _ 2 _ _ _ HVA_1.out).trans rfl
    have k_A_3 := (cell_of_row _ _ 3 _ _ _ HVA_1.out).trans rfl
    have k_A_4 := (cell_of_row _ _ 4 _ _ _ HVA_1.out).trans rfl
    have k_A_5 := (cell_of_row _ _ 5 _ _ _ HVA_1.out).trans rfl
    have k_A_6 := (cell_of_row _ _ 6 _ _ _ HVA_1.out).trans rfl
    have k_A_7 := (cell_of_row _ _ 7 _ _ _ HVA_1.out).trans rfl
    have k_A_8 := (cell_of_row _ _ 8 _ _ _ HVA_1.out).trans rfl
    have k_A_9 := (cell_of_row _ _ 9 _ _ _ HVA_1.out).trans rfl
    have k_A_10 := (cell_of_row _ _ 10 _ _ _ HVA_1.out).trans rfl
    have k_A_11 := (cell_of_row _ _ 11 _ _ _ HVA_1.out).trans rfl
    have k_A_12 := (cell_of_row _ _ 12 _ _ _ HVA_1.out).trans rfl
    have k_A_13 := (cell_of_row _ _ 13 _ _ _ HVA_1.out).trans rfl
    go_wp2_with (go_at_call 32; refine (CR.out _ HB0_1.out).mono ?_; rintro e w2 ⟨rfl, hb2⟩; refine Hid.out ?_)
    refine hid ?_
    clear k_A_0 k_A_1 k_A_2 k_A_3 k_A_4 k_A_5 k_A_6 k_A_7 k_A_8 k_A_9 k_A_10 k_A_11 k_A_12 k_A_13
    have hz2 := hb2.size
    have HB0_2 := hid (HB0_1.out.trans (hb2.mono HB0_1.out.size))
    have HVA_2 := hid ((hb2.block _ (by omega)).trans HVA_1.out)
    clear HB0_1 HVA_1
    clear hb2
    cases rb with
    | false =>
      have HZ := hid (devB_root (nb := true) (vb := vb) (up := up) (ims := ims) (es := es) (regs := regs))
      go_wp2
      go_ret
      exact ⟨by rw [HZ.out]; rfl, HB0_2.out⟩
    | true =>
      have k_A_0 := (cell_of_row _ _ 0 _ _ _ HVA_2.out).trans rfl
      have k_A_1 := (cell_of_row _ _ 1 _ _ _ HVA_2.out).trans rfl
      have k_A_2 := (cell_of_row _ _ 2 _ _ _ HVA_2.out).trans rfl
      have k_A_3 := (cell_of_row _ _ 3 _ _ _ HVA_2.out).trans rfl
      have k_A_4 := (cell_of_row _ _ 4 _ _ _ HVA_2.out).trans rfl
      have k_A_5 := (cell_of_row _ _ 5 _ _ _ HVA_2.out).trans rfl
      have k_A_6 := (cell_of_row _ _ 6 _ _ _ HVA_2.out).trans rfl
      have k_A_7 := (cell_of_row _ _ 7 _ _ _ HVA_2.out).trans rfl
      have k_A_8 := (cell_of_row _ _ 8 _ _ _ HVA_2.out).trans rfl
      have k_A_9 := (cell_of_row _ _ 9 _ _ _ HVA_2.out).trans rfl
      have k_A_10 := (cell_of_row _ _ 10 _ _ _ HVA_2.out).trans rfl
      have k_A_11 := (cell_of_row _ _ 11 _ _ _ HVA_2.out).trans rfl
      have k_A_12 := (cell_of_row _ _ 12 _ _ _ HVA_2.out).trans rfl
      have k_A_13 := (cell_of_row _ _ 13 _ _ _ HVA_2.out).trans rfl
      go_wp2_with (go_at_call 33; refine (CV.out _ HB0_2.out).mono ?_; rintro e w3 ⟨rfl, hb3⟩; refine Hid.out ?_)
      refine hid ?_
      clear k_A_0 k_A_1 k_A_2 k_A_3 k_A_4 k_A_5 k_A_6 k_A_7 k_A_8 k_A_9 k_A_10 k_A_11 k_A_12 k_A_13
      have hz3 := hb3.size
      have HB0_3 := hid (HB0_2.out.trans (hb3.mono HB0_2.out.size))
      have HVA_3 := hid ((hb3.block _ (by omega)).trans HVA_2.out)
      clear HB0_2 HVA_2
      clear hb3
      cases vb with
      | false =>
        have HZ := hid (devB_vault (nb := true) (rb := true) (up := up) (ims := ims) (es := es) (regs := regs))
        go_wp2
        go_ret
        exact ⟨by rw [HZ.out]; rfl, HB0_3.out⟩
      | true =>
        have k_A_0 := (cell_of_row _ _ 0 _ _ _ HVA_3.out).trans rfl
        have k_A_1 := (cell_of_row _ _ 1 _ _ _ HVA_3.out).trans rfl
        have k_A_2 := (cell_of_row _ _ 2 _ _ _ HVA_3.out).trans rfl
        have k_A_3 := (cell_of_row _ _ 3 _ _ _ HVA_3.out).trans rfl
        have k_A_4 := (cell_of_row _ _ 4 _ _ _ HVA_3.out).trans rfl
        have k_A_5 := (cell_of_row _ _ 5 _ _ _ HVA_3.out).trans rfl
        have k_A_6 := (cell_of_row _ _ 6 _ _ _ HVA_3.out).trans rfl
        have k_A_7 := (cell_of_row _ _ 7 _ _ _ HVA_3.out).trans rfl
        have k_A_8 := (cell_of_row _ _ 8 _ _ _ HVA_3.out).trans rfl
        have k_A_9 := (cell_of_row _ _ 9 _ _ _ HVA_3.out).trans rfl
        have k_A_10 := (cell_of_row _ _ 10 _ _ _ HVA_3.out).trans rfl
        have k_A_11 := (cell_of_row _ _ 11 _ _ _ HVA_3.out).trans rfl
        have k_A_12 := (cell_of_row _ _ 12 _ _ _ HVA_3.out).trans rfl
        have k_A_13 := (cell_of_row _ _ 13 _ _ _ HVA_3.out).trans rfl
        by_cases hi16 : ims.length ≤ 16
        · skip
          have i16 : ¬ (ims.length : Int) > 16 := by omega
          by_cases h60 : es.length ≤ 60
          · skip
            have i60 : ¬ (es.length : Int) > 60 := by omega
            go_wp2
            go_loopw [3] (fun iv wr => ∃ i : Nat, i ≤ ims.length ∧ iv = .int .i64 i ∧ Below w.heap.size w wr ∧ Hid (wr.heap[w.heap.size]? = some (.cells #[.string name, .string key, .int .i64 sz, .slice p1 l.length c1, .bool up, .slice p2 regs.length c2, .slice p3 ss.length c3, .int .i64 st, .int .i64 y0, .int .i64 y1, .string y2, .string y3, .slice p4 ims.length c4, .slice p5 es.length c5] 49)) ∧ Hid (∀ j (hj : j < ims.length), j < i → imgB ims[j].x0.data.toList ims[j].x1 = true)) (fun iv _ => ims.length - (RowKit.intOf iv).toNat)
            case atStart => exact ⟨0, Nat.zero_le _, rfl, HB0_3.out, hid HVA_3.out, hid (fun j _ h => absurd h (Nat.not_lt_zero _))⟩
            case round =>
              obtain ⟨i, hi, rfl, hbel, HV, HJ⟩ := hrel
              have HB := hid hbel
              clear hbel
              have z12 := (cell_of_row _ _ 12 _ _ _ HV.out).trans rfl
              by_cases hlt : i < ims.length
              · have hne : ims ≠ [] := fun h => by rw [h] at hlt; cases hlt
                obtain ⟨p', c', hv, _, hp⟩ := HF4.out
                obtain ⟨rfl, rfl⟩ : p4 = p' ∧ c4 = c' := by injection hv with h1 h2 h3; exact ⟨h1, by omega⟩
                obtain ⟨g, o, rfl, hg, hc⟩ := hp hne
                clear hv hp
                have b1 : (0 : Int) ≤ (i : Int) := by omega
                have b2 : (i : Int) < (ims.length : Int) := by omega
                have k0 : wr.cell? ⟨g, o + i * 2, none⟩ = some (.string ims[i].x0) := (HB.out.cell (p := ⟨g, o + i * 2, none⟩) hg).trans (hc i hlt 0 (by decide))
                have k1 : wr.cell? ⟨g, o + i * 2 + 1, none⟩ = some (.int .i64 ims[i].x1) := (HB.out.cell (p := ⟨g, o + i * 2 + 1, none⟩) hg).trans (hc i hlt 1 (by decide))
                clear hc
                have CII := hid (fun W => CI.out i hlt W)
                have HBAD := hid (fun h => imgs_bad (ims := ims) hlt h)
                obtain ⟨ib, hib⟩ : ∃ ib, imgB ims[i].x0.data.toList ims[i].x1 = ib := ⟨_, rfl⟩
                rw [hib] at CII HBAD
                have HIB := hid hib
                clear hib
                generalize ims[i].x0 = x at k0 CII
                generalize ims[i].x1 = y at k1 CII
                cases ib with
                | false =>
                  have HZ := hid (devB_imgs (nb := true) (rb := true) (vb := true) (up := up) (es := es) (regs := regs) (HBAD.out rfl))
                  go_wp2_with (go_at_call 34; refine (CII.out _).mono ?_; rintro e w9 ⟨rfl, hb9⟩; refine Hid.out ?_)
                  refine hid ?_
                  go_wp2
                  go_ret
                  exact ⟨by rw [HZ.out] <;> rfl, HB.out.trans (hb9.mono HB.out.size)⟩
                | true =>
                  go_wp2_with (go_at_call 34; refine (CII.out _).mono ?_; rintro e w9 ⟨rfl, hb9⟩; refine Hid.out ?_)
                  refine hid ?_
                  have HB9 := hid (HB.out.trans (hb9.mono HB.out.size))
                  have HV9 := hid ((hb9.block _ (by have := (Array.getElem?_eq_some_iff.1 HV.out).1; omega)).trans HV.out)
                  clear hb9
                  go_wp2
                  go_roundw
                  case rel => exact ⟨i + 1, by omega, by go_num, HB9.out, HV9, hid (fun j hj hji => (Nat.lt_or_ge j i).elim (fun h => HJ.out j hj h) (fun h => by have e : j = i := (by omega); subst e; exact HIB.out))⟩
                  case measure => simp [RowKit.intOf]; omega
              · have hie : i = ims.length := by omega
                have HALL := hid (imgs_all (ims := ims) (fun j hj => HJ.out j hj (by omega)))
                subst hie
                have z4 := (cell_of_row _ _ 4 _ _ _ HV.out).trans rfl
                have z13 := (cell_of_row _ _ 13 _ _ _ HV.out).trans rfl
                cases up with
                | false =>
                  have HZ := hid (devB_down (es := es) (regs := regs) hi16 HALL.out)
                  by_cases hm : ims.length = 0
                  · by_cases he : es.length = 0
                    · have hmi : ((ims.length : Int) == 0) = true := by rw [hm]; rfl
                      have hei : ((es.length : Int) == 0) = true := by rw [he]; rfl
                      go_wp2
                      go_ret
                      exact ⟨by rw [HZ.out, decide_eq_true hm, decide_eq_true he] <;> first | rfl | simp [hm, he], HB.out⟩
                    · have hmi : ((ims.length : Int) == 0) = true := by rw [hm]; rfl
                      have hei : ((es.length : Int) == 0) = false := by rw [beq_eq_false_iff_ne]; omega
                      go_wp2
                      go_ret
                      exact ⟨by rw [HZ.out, decide_eq_true hm, decide_eq_false he] <;> first | rfl | simp [hm, he], HB.out⟩
                  · have hmi : ((ims.length : Int) == 0) = false := by rw [beq_eq_false_iff_ne]; omega
                    go_wp2
                    go_ret
                    exact ⟨by rw [HZ.out, decide_eq_false hm] <;> first | rfl | simp [hm], HB.out⟩
                | true =>
                  have HZ := hid (HDU.out hi16 HALL.out)
                  go_wp2_with (go_at_call 35; refine (CF.out _ (HF5.out.on HB.out)).mono ?_; rintro e w9 ⟨sv9, rfl, hb9, ho9⟩; refine Hid.out ?_)
                  refine hid ?_
                  have HB9 := hid (HB.out.trans (hb9.mono HB.out.size))
                  have HV9 := hid ((hb9.block _ (by have := (Array.getElem?_eq_some_iff.1 HV.out).1; omega)).trans HV.out)
                  have HT9 := hid (texts_of ho9)
                  clear hb9 ho9 z4 z13 z12
                  have z5 := (cell_of_row _ _ 5 _ _ _ HV9.out).trans rfl
                  cases fb with
                  | false =>
                    go_wp2
                    go_ret
                    exact ⟨by rw [HZ.out] <;> rfl, HB9.out⟩
                  | true =>
                    go_wp2_with (go_at_call 36; refine (CE.out _ _ HT9.out (HF2.out.on HB9.out)).mono ?_; rintro e wa ⟨rfl, hba⟩; refine Hid.out ?_)
                    refine hid ?_
                    go_wp2
                    go_ret
                    exact ⟨by rw [HZ.out] <;> first | rfl | simp, HB9.out.trans (hba.mono HB9.out.size)⟩
          · have i60 : (es.length : Int) > 60 := by omega
            have HZ := hid (devB_long (nb := true) (rb := true) (vb := true) (up := up) (ims := ims) (regs := regs) h60)
            go_wp2
            go_ret
            exact ⟨by rw [HZ.out]; rfl, HB0_3.out⟩
        · have i16 : (ims.length : Int) > 16 := by omega
          have HZ := hid (devB_many (nb := true) (rb := true) (vb := true) (up := up) (es := es) (regs := regs) hi16)
          go_wp2
          go_ret
          exact ⟨by rw [HZ.out]; rfl, HB0_3.out⟩
end Go.Proofs.YtnkaabgjfdbdoaaGreatDoor
