/- DeviceOk, the program's: what RootOk and VaultOk answer comes in. -/
import Derived.Test.YtnkaabgjfdbdoaaGreatDoorDevPlain
import Derived.Test.YtnkaabgjfdbdoaaGreatDoorPackFold
import Derived.Test.YtnkaabgjfdbdoaaGreatDoorArgTexts
import Derived.Test.YtnkaabgjfdbdoaaGreatDoorPackRp
import Derived.Test.YtnkaabgjfdbdoaaGreatDoorPackKt
namespace Go.Proofs.YtnkaabgjfdbdoaaGreatDoor
open Go.RowKit
open Go.Lib (hid)

set_option maxRecDepth 20000 in
set_option maxHeartbeats 4000000 in
theorem areImages_calls (ims : List ImageD) (him : ims.length ≤ 1048576) (a : Value) (w : World) (h : FRow encImage 2 w a ims) (hT : Tab w) (hG : 0 < w.heap.size) (hP : Lib.TabIs Tryz.prog w "internal/strconv.uint64pow10" .u64 Lib.pow10Tab) :
    Calls Tryz.prog 43 #[a, .int .i64 16] w fun e w' => e = .returned (.bool (decide (ims.length ≤ 16) && imgsB ims)) ∧ Below w.heap.size w w' := by
  have HF4 := hid h
  have CI := hid (fun i (hi : i < ims.length) W (hb : Below w.heap.size w W) => image_impl ims[i].x0 ims[i].x1 W (tab_on hT hG hb) (Nat.lt_of_lt_of_le hG hb.size) (Num.tab_stays hb hP))
  obtain ⟨p4, c4, rfl, _⟩ := h
  clear hT hP
  by_cases hi16 : ims.length ≤ 16
  · have i16 : ¬ (ims.length : Int) > 16 := by omega
    have HD := hid (decide_eq_true hi16)
    go_enter Tryz.func43, Tryz.ntmps43
    go_wp2
    go_loopw [13] (fun iv wr => ∃ i : Nat, i ≤ ims.length ∧ iv = .int .i64 i ∧ Below w.heap.size w wr ∧ Hid (∀ j (hj : j < ims.length), j < i → imgB ims[j].x0.data.toList ims[j].x1 = true)) (fun iv _ => ims.length - (RowKit.intOf iv).toNat)
    case atStart => exact ⟨0, Nat.zero_le _, rfl, Below.refl _ _, hid (fun j _ h => absurd h (Nat.not_lt_zero _))⟩
    case round =>
      obtain ⟨i, hi, rfl, hbel, HJ⟩ := hrel
      have HB := hid hbel
      clear hbel
      by_cases hlt : i < ims.length
      · have hne : ims ≠ [] := fun h => by rw [h] at hlt; cases hlt
        obtain ⟨p', c', hv, _, hp⟩ := HF4.out
        obtain ⟨rfl, rfl⟩ : p4 = p' ∧ c4 = c' := by injection hv with h1 h2 h3; exact ⟨h1, by omega⟩
        obtain ⟨g, o, rfl, hg, hc⟩ := hp hne
        clear hv hp
        have b1 : (0 : Int) ≤ (i : Int) := by omega
        have b2 : (i : Int) < (ims.length : Int) := by omega
        have k0 : wr.cell? ⟨g, o + i * 2, none⟩ = some (.string ims[i].x0) := (HB.out.cell (p := ⟨g, o + i * 2, none⟩) hg).trans (hc i hlt 0 (by decide))
        have k1 : wr.cell? ⟨g, o + i * 2 + 1, none⟩ = some (.int .i64 ims[i].x1) := (HB.out.cell (p := ⟨g, o + i * 2 + 1, none⟩) hg).trans (hc i hlt 1 (by decide))
        clear hc
        have CII := hid (fun W hb => CI.out i hlt W hb)
        have HBAD := hid (fun h => imgs_bad (ims := ims) hlt h)
        obtain ⟨ib, hib⟩ : ∃ ib, imgB ims[i].x0.data.toList ims[i].x1 = ib := ⟨_, rfl⟩
        rw [hib] at CII HBAD
        have HIB := hid hib
        clear hib
        generalize ims[i].x0 = x at k0 CII
        generalize ims[i].x1 = y at k1 CII
        cases ib with
        | false =>
          have HZ := hid (HBAD.out rfl)
          go_wp2_with (go_at_call 102; refine (CII.out _ (HB.out.alloc HB.out.size _)).mono ?_; rintro e w9 ⟨rfl, hb9⟩; refine Hid.out ?_)
          refine hid ?_
          go_wp2
          go_ret
          exact ⟨by rw [HZ.out, HD.out] <;> rfl, (HB.out.alloc HB.out.size _).trans (hb9.mono (HB.out.alloc HB.out.size _).size)⟩
        | true =>
          go_wp2_with (go_at_call 102; refine (CII.out _ (HB.out.alloc HB.out.size _)).mono ?_; rintro e w9 ⟨rfl, hb9⟩; refine Hid.out ?_)
          refine hid ?_
          have HB9 := hid ((HB.out.alloc HB.out.size _).trans (hb9.mono (HB.out.alloc HB.out.size _).size))
          clear hb9
          go_wp2
          go_roundw
          case rel => exact ⟨i + 1, by omega, by go_num, HB9.out, hid (fun j hj hji => (Nat.lt_or_ge j i).elim (fun h => HJ.out j hj h) (fun h => by have e : j = i := (by omega); subst e; exact HIB.out))⟩
          case measure => simp [RowKit.intOf]; omega
      · have hie : i = ims.length := by omega
        have HALL := hid (imgs_all (ims := ims) (fun j hj => HJ.out j hj (by omega)))
        subst hie
        go_wp2
        go_ret
        exact ⟨by rw [HD.out, HALL.out] <;> rfl, HB.out⟩
  · have i16 : (ims.length : Int) > 16 := by omega
    have HD := hid (decide_eq_false hi16)
    go_enter Tryz.func43, Tryz.ntmps43
    go_wp2
    go_ret
    exact ⟨by rw [HD.out]; rfl, Below.refl _ _⟩

set_option maxRecDepth 20000 in
set_option maxHeartbeats 4000000 in
theorem devOk_impl (name key : ByteArray) (sz : Int) (l : List Int) (p1 : Option Addr) (c1 : Nat) (up : Bool) (regs : List (List UInt8)) (hrn : regs.length ≤ 1048576) (p2 : Option Addr) (c2 : Nat) (ss : List Unit) (p3 : Option Addr) (c3 : Nat) (st y0 y1 : Int) (y2 y3 : ByteArray) (ims : List ImageD) (p4 : Option Addr) (c4 : Nat) (es : List EventD) (hen : es.length ≤ 1048576) (p5 : Option Addr) (c5 : Nat) (rb vb : Bool) (w : World)
    (h2 : TextsAt w (.slice p2 regs.length c2) regs) (h4 : FRow encImage 2 w (.slice p4 ims.length c4) ims) (h5 : FRow encEvent 2 w (.slice p5 es.length c5) es) (him : ims.length ≤ 1048576) (hT : Tab w) (hG : 0 < w.heap.size) (hP : Lib.TabIs Tryz.prog w "internal/strconv.uint64pow10" .u64 Lib.pow10Tab)
    (CR : ∀ W, Below w.heap.size w W → Calls Tryz.prog 41 #[.agg #[.string key, .int .i64 sz, .slice p1 l.length c1, .bool up, .slice p2 regs.length c2]] W fun e w' => e = .returned (.bool rb) ∧ Below W.heap.size W w')
    (CV : ∀ W, Below w.heap.size w W → Calls Tryz.prog 42 #[.agg #[.slice p3 ss.length c3, .int .i64 st, .int .i64 y0, .int .i64 y1, .string y2, .string y3]] W fun e w' => e = .returned (.bool vb) ∧ Below W.heap.size W w') :
    Calls Tryz.prog 11 #[.agg #[.string name, .string key, .int .i64 sz, .slice p1 l.length c1, .bool up, .slice p2 regs.length c2, .slice p3 ss.length c3, .int .i64 st, .int .i64 y0, .int .i64 y1, .string y2, .string y3, .slice p4 ims.length c4, .slice p5 es.length c5]] w fun e w' => e = .returned (.bool (devB (nameB name.data.toList) rb vb up ims es regs)) ∧ Below w.heap.size w w' := by
  have HF2 := hid h2
  have CR := hid CR
  have CV := hid CV
  have CK := hid (fun W (hb : Below w.heap.size w W) => kind_impl name W (tab_on hT hG hb) (Nat.lt_of_lt_of_le hG hb.size))
  have CF := hid (fun W (hb : Below w.heap.size w W) => fold_impl es hen (.slice p5 es.length c5) W (h5.on hb) (tab_on hT hG hb) (Nat.lt_of_lt_of_le hG hb.size))
  unfold FoldPost at CF
  have hff := fold_few es
  have CE := hid (fun v W h1 h2 => equal_texts (foldOut es).1 regs (by omega) hrn v (.slice p2 regs.length c2) W h1 h2)
  have CA := hid (fun W (hb : Below w.heap.size w W) => areImages_calls ims him (.slice p4 ims.length c4) W (h4.on hb) (tab_on hT hG hb) (Nat.lt_of_lt_of_le hG hb.size) (Num.tab_stays hb hP))
  clear h2 h4 h5 hT hP
  have HSN := hid (name_node name)
  generalize (nodeOf name).1 = kk at *
  have HNK : Hid (∀ sb : Bool, nameB name.data.toList = sb → ((kk : Int) != 1) = !sb) := hid (fun sb h => by
    have h2 := HSN.out
    rw [h] at h2
    cases sb with
    | false => have := of_decide_eq_false h2.symm; rw [Bool.not_false, bne_iff_ne]; omega
    | true => have := of_decide_eq_true h2.symm; rw [this]; rfl)
  have HDU := hid (fun h hi => devB_up (ims := ims) (es := es) (regs := regs) h hi)
  generalize (foldOut es).2 = fb at *
  generalize (foldOut es).1 = fl at *
  obtain ⟨nb, hnb⟩ : ∃ nb, nameB name.data.toList = nb := ⟨_, rfl⟩
  rw [hnb]
  have hkn := HNK.out nb hnb
  clear hnb
  have HB0_0 : Hid (Below w.heap.size w w) := hid (Below.refl _ _)
  have hz0 : w.heap.size ≤ w.heap.size := Nat.le_refl _
  go_enter Tryz.func11, Tryz.ntmps11
  obtain ⟨w1, hw1⟩ : ∃ W, W = w.alloc (.cells #[.string name, .string key, .int .i64 sz, .slice p1 l.length c1, .bool up, .slice p2 regs.length c2, .slice p3 ss.length c3, .int .i64 st, .int .i64 y0, .int .i64 y1, .string y2, .string y3, .slice p4 ims.length c4, .slice p5 es.length c5] 49) := ⟨_, rfl⟩
  have hb1 : Below w.heap.size w w1 := by rw [hw1]; exact (Below.refl _ _).alloc (Nat.le_refl _) _
  have hz1 : w.heap.size < w1.heap.size := by rw [hw1]; simp
  have HVA_1 : Hid (w1.heap[w.heap.size]? = some (.cells #[.string name, .string key, .int .i64 sz, .slice p1 l.length c1, .bool up, .slice p2 regs.length c2, .slice p3 ss.length c3, .int .i64 st, .int .i64 y0, .int .i64 y1, .string y2, .string y3, .slice p4 ims.length c4, .slice p5 es.length c5] 49)) := hid (by rw [hw1]; exact heap_alloc_new _ _)
  have HW1 := hid hw1
  have HB0_1 := hid (HB0_0.out.trans (hb1.mono HB0_0.out.size))
  clear hw1 hb1
  go_wp2_with (go_at_call 40; rw [← HW1.out]; refine (CK.out _ HB0_1.out).mono ?_; rintro e w2 ⟨rfl, hb2⟩; refine Hid.out ?_)
  refine hid ?_
  have hz2 := hb2.size
  have HB0_2 := hid (HB0_1.out.trans (hb2.mono HB0_1.out.size))
  have HVA_2 := hid ((hb2.block _ (by omega)).trans HVA_1.out)
  clear HB0_1 HVA_1
  clear hb2
  cases nb with
  | false =>
    have HZ := hid (devB_name (rb := rb) (vb := vb) (up := up) (ims := ims) (es := es) (regs := regs))
    go_wp2
    go_ret
    exact ⟨by rw [HZ.out]; rfl, HB0_2.out⟩
  | true =>
    have k_A_0 := (cell_of_row _ _ 0 _ _ _ HVA_2.out).trans rfl
    have k_A_1 := (cell_of_row _ _ 1 _ _ _ HVA_2.out).trans rfl
    have k_A_2 := (cell_of_row _ _ 2 _ _ _ HVA_2.out).trans rfl
    have k_A_3 := (cell_of_row _ _ 3 _ _ _ HVA_2.out).trans rfl
    have k_A_4 := (cell_of_row _ _ 4 _ _ _ HVA_2.out).trans rfl
    have k_A_5 := (cell_of_row _ _ 5 _ _ _ HVA_2.out).trans rfl
    have k_A_6 := (cell_of_row _ _ 6 _ _ _ HVA_2.out).trans rfl
    have k_A_7 := (cell_of_row _ _ 7 _ _ _ HVA_2.out).trans rfl
    have k_A_8 := (cell_of_row _ _ 8 _ _ _ HVA_2.out).trans rfl
    have k_A_9 := (cell_of_row _ _ 9 _ _ _ HVA_2.out).trans rfl
    have k_A_10 := (cell_of_row _ _ 10 _ _ _ HVA_2.out).trans rfl
    have k_A_11 := (cell_of_row _ _ 11 _ _ _ HVA_2.out).trans rfl
    have k_A_12 := (cell_of_row _ _ 12 _ _ _ HVA_2.out).trans rfl
    have k_A_13 := (cell_of_row _ _ 13 _ _ _ HVA_2.out).trans rfl
    go_wp2_with (go_at_call 41; refine (CR.out _ HB0_2.out).mono ?_; rintro e w3 ⟨rfl, hb3⟩; refine Hid.out ?_)
    refine hid ?_
    clear k_A_0 k_A_1 k_A_2 k_A_3 k_A_4 k_A_5 k_A_6 k_A_7 k_A_8 k_A_9 k_A_10 k_A_11 k_A_12 k_A_13
    have hz3 := hb3.size
    have HB0_3 := hid (HB0_2.out.trans (hb3.mono HB0_2.out.size))
    have HVA_3 := hid ((hb3.block _ (by omega)).trans HVA_2.out)
    clear HB0_2 HVA_2
    clear hb3
    cases rb with
    | false =>
      have HZ := hid (devB_root (nb := true) (vb := vb) (up := up) (ims := ims) (es := es) (regs := regs))
      go_wp2
      go_ret
      exact ⟨by rw [HZ.out]; rfl, HB0_3.out⟩
    | true =>
      have k_A_0 := (cell_of_row _ _ 0 _ _ _ HVA_3.out).trans rfl
      have k_A_1 := (cell_of_row _ _ 1 _ _ _ HVA_3.out).trans rfl
      have k_A_2 := (cell_of_row _ _ 2 _ _ _ HVA_3.out).trans rfl
      have k_A_3 := (cell_of_row _ _ 3 _ _ _ HVA_3.out).trans rfl
      have k_A_4 := (cell_of_row _ _ 4 _ _ _ HVA_3.out).trans rfl
      have k_A_5 := (cell_of_row _ _ 5 _ _ _ HVA_3.out).trans rfl
      have k_A_6 := (cell_of_row _ _ 6 _ _ _ HVA_3.out).trans rfl
      have k_A_7 := (cell_of_row _ _ 7 _ _ _ HVA_3.out).trans rfl
      have k_A_8 := (cell_of_row _ _ 8 _ _ _ HVA_3.out).trans rfl
      have k_A_9 := (cell_of_row _ _ 9 _ _ _ HVA_3.out).trans rfl
      have k_A_10 := (cell_of_row _ _ 10 _ _ _ HVA_3.out).trans rfl
      have k_A_11 := (cell_of_row _ _ 11 _ _ _ HVA_3.out).trans rfl
      have k_A_12 := (cell_of_row _ _ 12 _ _ _ HVA_3.out).trans rfl
      have k_A_13 := (cell_of_row _ _ 13 _ _ _ HVA_3.out).trans rfl
      go_wp2_with (go_at_call 42; refine (CV.out _ HB0_3.out).mono ?_; rintro e w4 ⟨rfl, hb4⟩; refine Hid.out ?_)
      refine hid ?_
      clear k_A_0 k_A_1 k_A_2 k_A_3 k_A_4 k_A_5 k_A_6 k_A_7 k_A_8 k_A_9 k_A_10 k_A_11 k_A_12 k_A_13
      have hz4 := hb4.size
      have HB0_4 := hid (HB0_3.out.trans (hb4.mono HB0_3.out.size))
      have HVA_4 := hid ((hb4.block _ (by omega)).trans HVA_3.out)
      clear HB0_3 HVA_3
      clear hb4
      cases vb with
      | false =>
        have HZ := hid (devB_vault (nb := true) (rb := true) (up := up) (ims := ims) (es := es) (regs := regs))
        go_wp2
        go_ret
        exact ⟨by rw [HZ.out]; rfl, HB0_4.out⟩
      | true =>
        have k_A_0 := (cell_of_row _ _ 0 _ _ _ HVA_4.out).trans rfl
        have k_A_1 := (cell_of_row _ _ 1 _ _ _ HVA_4.out).trans rfl
        have k_A_2 := (cell_of_row _ _ 2 _ _ _ HVA_4.out).trans rfl
        have k_A_3 := (cell_of_row _ _ 3 _ _ _ HVA_4.out).trans rfl
        have k_A_4 := (cell_of_row _ _ 4 _ _ _ HVA_4.out).trans rfl
        have k_A_5 := (cell_of_row _ _ 5 _ _ _ HVA_4.out).trans rfl
        have k_A_6 := (cell_of_row _ _ 6 _ _ _ HVA_4.out).trans rfl
        have k_A_7 := (cell_of_row _ _ 7 _ _ _ HVA_4.out).trans rfl
        have k_A_8 := (cell_of_row _ _ 8 _ _ _ HVA_4.out).trans rfl
        have k_A_9 := (cell_of_row _ _ 9 _ _ _ HVA_4.out).trans rfl
        have k_A_10 := (cell_of_row _ _ 10 _ _ _ HVA_4.out).trans rfl
        have k_A_11 := (cell_of_row _ _ 11 _ _ _ HVA_4.out).trans rfl
        have k_A_12 := (cell_of_row _ _ 12 _ _ _ HVA_4.out).trans rfl
        have k_A_13 := (cell_of_row _ _ 13 _ _ _ HVA_4.out).trans rfl
        obtain ⟨ab, hab⟩ : ∃ ab, (decide (ims.length ≤ 16) && imgsB ims) = ab := ⟨_, rfl⟩
        rw [hab] at CA
        have HAB := hid hab
        clear hab
        go_wp2_with (go_at_call 43; refine (CA.out _ HB0_4.out).mono ?_; rintro e w5 ⟨rfl, hb5⟩; refine Hid.out ?_)
        refine hid ?_
        clear k_A_0 k_A_1 k_A_2 k_A_3 k_A_4 k_A_5 k_A_6 k_A_7 k_A_8 k_A_9 k_A_10 k_A_11 k_A_12 k_A_13
        have hz5 := hb5.size
        have HB0_5 := hid (HB0_4.out.trans (hb5.mono HB0_4.out.size))
        have HVA_5 := hid ((hb5.block _ (by omega)).trans HVA_4.out)
        clear HB0_4 HVA_4
        clear hb5
        cases ab with
        | false =>
          have HZ := hid (devB_set (nb := true) (rb := true) (vb := true) (up := up) (es := es) (regs := regs) HAB.out)
          go_wp2
          go_ret
          exact ⟨by rw [HZ.out]; rfl, HB0_5.out⟩
        | true =>
          have k_A_0 := (cell_of_row _ _ 0 _ _ _ HVA_5.out).trans rfl
          have k_A_1 := (cell_of_row _ _ 1 _ _ _ HVA_5.out).trans rfl
          have k_A_2 := (cell_of_row _ _ 2 _ _ _ HVA_5.out).trans rfl
          have k_A_3 := (cell_of_row _ _ 3 _ _ _ HVA_5.out).trans rfl
          have k_A_4 := (cell_of_row _ _ 4 _ _ _ HVA_5.out).trans rfl
          have k_A_5 := (cell_of_row _ _ 5 _ _ _ HVA_5.out).trans rfl
          have k_A_6 := (cell_of_row _ _ 6 _ _ _ HVA_5.out).trans rfl
          have k_A_7 := (cell_of_row _ _ 7 _ _ _ HVA_5.out).trans rfl
          have k_A_8 := (cell_of_row _ _ 8 _ _ _ HVA_5.out).trans rfl
          have k_A_9 := (cell_of_row _ _ 9 _ _ _ HVA_5.out).trans rfl
          have k_A_10 := (cell_of_row _ _ 10 _ _ _ HVA_5.out).trans rfl
          have k_A_11 := (cell_of_row _ _ 11 _ _ _ HVA_5.out).trans rfl
          have k_A_12 := (cell_of_row _ _ 12 _ _ _ HVA_5.out).trans rfl
          have k_A_13 := (cell_of_row _ _ 13 _ _ _ HVA_5.out).trans rfl
          have HIA := hid ((Bool.and_eq_true_iff.1 HAB.out).2)
          have hi16 := of_decide_eq_true (Bool.and_eq_true_iff.1 HAB.out).1
          cases up with
          | false =>
            have HZ := hid (devB_down (es := es) (regs := regs) hi16 HIA.out)
            by_cases hm : ims.length = 0
            · by_cases he : es.length = 0
              · have hmi : ((ims.length : Int) == 0) = true := by rw [hm]; rfl
                have hei : ((es.length : Int) == 0) = true := by rw [he]; rfl
                go_wp2
                go_ret
                exact ⟨by rw [HZ.out, decide_eq_true hm, decide_eq_true he] <;> first | rfl | simp [hm, he], HB0_5.out⟩
              · have hmi : ((ims.length : Int) == 0) = true := by rw [hm]; rfl
                have hei : ((es.length : Int) == 0) = false := by rw [beq_eq_false_iff_ne]; omega
                go_wp2
                go_ret
                exact ⟨by rw [HZ.out, decide_eq_true hm, decide_eq_false he] <;> first | rfl | simp [hm, he], HB0_5.out⟩
            · have hmi : ((ims.length : Int) == 0) = false := by rw [beq_eq_false_iff_ne]; omega
              go_wp2
              go_ret
              exact ⟨by rw [HZ.out, decide_eq_false hm] <;> first | rfl | simp [hm], HB0_5.out⟩
          | true =>
            have HZ := hid (HDU.out hi16 HIA.out)
            go_wp2_with (go_at_call 44; refine (CF.out _ HB0_5.out).mono ?_; rintro e w6 ⟨sv6, rfl, hb6, ho6⟩; refine Hid.out ?_)
            refine hid ?_
            clear k_A_0 k_A_1 k_A_2 k_A_3 k_A_4 k_A_5 k_A_6 k_A_7 k_A_8 k_A_9 k_A_10 k_A_11 k_A_12 k_A_13
            have hz6 := hb6.size
            have HB0_6 := hid (HB0_5.out.trans (hb6.mono HB0_5.out.size))
            have HVA_6 := hid ((hb6.block _ (by omega)).trans HVA_5.out)
            clear HB0_5 HVA_5
            have HB6_6 : Hid (Below w6.heap.size w6 w6) := hid (Below.refl _ _)
            have HFf := hid (texts_of ho6)
            obtain ⟨pf, cf, rfl, _⟩ := own_shape ho6
            clear ho6
            clear hb6
            have k_A_0 := (cell_of_row _ _ 0 _ _ _ HVA_6.out).trans rfl
            have k_A_1 := (cell_of_row _ _ 1 _ _ _ HVA_6.out).trans rfl
            have k_A_2 := (cell_of_row _ _ 2 _ _ _ HVA_6.out).trans rfl
            have k_A_3 := (cell_of_row _ _ 3 _ _ _ HVA_6.out).trans rfl
            have k_A_4 := (cell_of_row _ _ 4 _ _ _ HVA_6.out).trans rfl
            have k_A_5 := (cell_of_row _ _ 5 _ _ _ HVA_6.out).trans rfl
            have k_A_6 := (cell_of_row _ _ 6 _ _ _ HVA_6.out).trans rfl
            have k_A_7 := (cell_of_row _ _ 7 _ _ _ HVA_6.out).trans rfl
            have k_A_8 := (cell_of_row _ _ 8 _ _ _ HVA_6.out).trans rfl
            have k_A_9 := (cell_of_row _ _ 9 _ _ _ HVA_6.out).trans rfl
            have k_A_10 := (cell_of_row _ _ 10 _ _ _ HVA_6.out).trans rfl
            have k_A_11 := (cell_of_row _ _ 11 _ _ _ HVA_6.out).trans rfl
            have k_A_12 := (cell_of_row _ _ 12 _ _ _ HVA_6.out).trans rfl
            have k_A_13 := (cell_of_row _ _ 13 _ _ _ HVA_6.out).trans rfl
            cases fb with
            | false =>
              go_wp2
              go_ret
              exact ⟨by rw [HZ.out] <;> rfl, HB0_6.out⟩
            | true =>
              by_cases hl : fl = regs
              · have HLL := hid (decide_eq_true hl)
                have HL2 := hid hl
                clear hl
                rw [HLL.out] at CE
                go_wp2_with (go_at_call 45; refine (CE.out _ _ (HFf.out.on HB6_6.out) (HF2.out.on HB0_6.out)).mono ?_; rintro e w7 ⟨rfl, hb7⟩; refine Hid.out ?_)
                refine hid ?_
                clear k_A_0 k_A_1 k_A_2 k_A_3 k_A_4 k_A_5 k_A_6 k_A_7 k_A_8 k_A_9 k_A_10 k_A_11 k_A_12 k_A_13
                have hz7 := hb7.size
                have HB0_7 := hid (HB0_6.out.trans (hb7.mono HB0_6.out.size))
                have HB6_7 := hid (HB6_6.out.trans (hb7.mono HB6_6.out.size))
                have HVA_7 := hid ((hb7.block _ (by omega)).trans HVA_6.out)
                clear HB0_6 HB6_6 HVA_6
                clear hb7
                go_wp2
                go_ret
                exact ⟨by rw [HZ.out]; simp [HL2.out], HB0_7.out⟩
              · have HLL := hid (decide_eq_false hl)
                have HL2 := hid hl
                clear hl
                rw [HLL.out] at CE
                go_wp2_with (go_at_call 45; refine (CE.out _ _ (HFf.out.on HB6_6.out) (HF2.out.on HB0_6.out)).mono ?_; rintro e w7 ⟨rfl, hb7⟩; refine Hid.out ?_)
                refine hid ?_
                clear k_A_0 k_A_1 k_A_2 k_A_3 k_A_4 k_A_5 k_A_6 k_A_7 k_A_8 k_A_9 k_A_10 k_A_11 k_A_12 k_A_13
                have hz7 := hb7.size
                have HB0_7 := hid (HB0_6.out.trans (hb7.mono HB0_6.out.size))
                have HB6_7 := hid (HB6_6.out.trans (hb7.mono HB6_6.out.size))
                have HVA_7 := hid ((hb7.block _ (by omega)).trans HVA_6.out)
                clear HB0_6 HB6_6 HVA_6
                clear hb7
                go_wp2
                go_ret
                exact ⟨by rw [HZ.out]; simp [HL2.out], HB0_7.out⟩
end Go.Proofs.YtnkaabgjfdbdoaaGreatDoor
