/- WriteLog, the program's. -/
import Derived.Test.YtedbhlihdfaaaaaDoorLogPut
import Derived.Lib.SlBytesConst
import Derived.Test.YtedbhlihdfaaaaaDoorImplFace
import Derived.Test.YtedbhlihdfaaaaaDoorMeasBoth
namespace Go.Proofs.YtedbhlihdfaaaaaDoor
open Go.RowKit
open Go.Lib (hid)

theorem lreg_calls (n : Int) (w : World) :
    Calls Tryd.prog 182 #[.int .i64 n] w fun e w' => e = .returned (.bool (decide (0 ≤ n ∧ n ≤ 7))) ∧ w' = w := by
  by_cases h0 : 0 ≤ n
  · by_cases h1 : n < 8
    · have h2 : decide (0 ≤ n ∧ n ≤ 7) = true := decide_eq_true ⟨h0, by omega⟩
      rw [h2]
      go_enter Tryd.func182, Tryd.ntmps182
      go_wp2
      go_ret
      exact ⟨by simp, rfl⟩
    · have h2 : decide (0 ≤ n ∧ n ≤ 7) = false := decide_eq_false (fun h => h1 (by omega))
      rw [h2]
      go_enter Tryd.func182, Tryd.ntmps182
      go_wp2
      go_ret
      exact ⟨by first | rfl | simp | (simp; omega), rfl⟩
  · have h2 : decide (0 ≤ n ∧ n ≤ 7) = false := decide_eq_false (fun h => h0 h.1)
    rw [h2]
    go_enter Tryd.func182, Tryd.ntmps182
    go_wp2
    go_ret
    exact ⟨rfl, rfl⟩

set_option maxRecDepth 20000 in
theorem lright_impl (x : Int) (y : ByteArray) (w : World) (hT : Tab w) (hG : 0 < w.heap.size) :
    Calls Tryd.prog 103 #[.agg #[.int .i64 x, .string y]] w fun e w' => e = .returned (.bool (decide ((0 ≤ x ∧ x ≤ 7) ∧ (nodeOf y).1 ≠ 0))) ∧ Below w.heap.size w w' := by
  have HT := hid hT
  clear hT
  obtain ⟨w1, hw1⟩ : ∃ W, W = w.alloc (.cells #[.int .i64 x, .string y] 141) := ⟨_, rfl⟩
  have HB1 : Hid (Below w.heap.size w w1) := hid (by rw [hw1]; exact (Below.refl _ _).alloc (Nat.le_refl _) _)
  have HV1 : Hid (w1.heap[w.heap.size]? = some (.cells #[.int .i64 x, .string y] 141)) := hid (by rw [hw1]; exact heap_alloc_new _ _)
  have HW1 := hid hw1
  clear hw1
  have k0 : w1.cell? ⟨w.heap.size, 0, none⟩ = some (.int .i64 x) := (cell_of_row _ _ 0 _ _ _ HV1.out).trans rfl
  have k1 : w1.cell? ⟨w.heap.size, 1, none⟩ = some (.string y) := (cell_of_row _ _ 1 _ _ _ HV1.out).trans rfl
  have CR := hid (fun W => lreg_calls x W)
  by_cases hx : 0 ≤ x ∧ x ≤ 7
  · rw [decide_eq_true hx] at CR
    have HX := hid hx
    clear hx
    have CK := hid (fun W hT hG => kind_impl y W hT hG)
    by_cases hk : (nodeOf y).1 = 0
    · rw [decide_eq_false (fun h => h.2 hk)]
      rw [hk] at CK
      clear hk
      go_enter Tryd.func103, Tryd.ntmps103
      go_wp2_with (first | (go_at_call 182; rw [← HW1.out]; refine (CR.out _).mono ?_; rintro e w2 ⟨rfl, e2⟩; rw [e2]; clear e2 w2) | (go_at_call 178; refine (CK.out _ (tab_on HT.out hG HB1.out) (Nat.lt_of_lt_of_le hG HB1.out.size)).mono ?_; rintro e w3 ⟨rfl, hb3⟩; refine Hid.out ?_))
      refine hid ?_
      go_wp2
      go_ret
      exact ⟨rfl, HB1.out.trans (hb3.mono HB1.out.size)⟩
    · rw [decide_eq_true ⟨HX.out, hk⟩]
      have hkb : (((nodeOf y).1 : Int) != 0) = true := by simp; omega
      have hkk : ¬ ((nodeOf y).1 : Int) = 0 := by omega
      generalize (nodeOf y).1 = kk at *
      go_enter Tryd.func103, Tryd.ntmps103
      go_wp2_with (first | (go_at_call 182; rw [← HW1.out]; refine (CR.out _).mono ?_; rintro e w2 ⟨rfl, e2⟩; rw [e2]; clear e2 w2) | (go_at_call 178; refine (CK.out _ (tab_on HT.out hG HB1.out) (Nat.lt_of_lt_of_le hG HB1.out.size)).mono ?_; rintro e w3 ⟨rfl, hb3⟩; refine Hid.out ?_))
      refine hid ?_
      go_wp2
      go_ret
      exact ⟨by simp, HB1.out.trans (hb3.mono HB1.out.size)⟩
  · rw [decide_eq_false hx] at CR
    rw [decide_eq_false (fun h => hx h.1)]
    clear hx
    go_enter Tryd.func103, Tryd.ntmps103
    go_wp2_with (go_at_call 182; rw [← HW1.out]; refine (CR.out _).mono ?_; rintro e w2 ⟨rfl, e2⟩; rw [e2]; clear e2 w2)
    go_ret
    exact ⟨rfl, HB1.out⟩

set_option maxRecDepth 20000 in
set_option maxHeartbeats 4000000 in
theorem log_impl (es : List EventD) (hs : ∀ e ∈ es, e.x1.size ≤ 1048576) (hen : es.length ≤ 1048576) (a : Value) (w : World) (h : FRow encEvent 2 w a es) (hT : Tab w) (hG : 0 < w.heap.size) :
    Calls Tryd.prog 25 #[a] w (LogPost es w) := by
  have HF := hid h
  have HS := hid hs
  have CR := hid (fun i (hi : i < es.length) W (hb : Below w.heap.size w W) => lright_impl es[i].x0 es[i].x1 W (tab_on hT hG hb) (Nat.lt_of_lt_of_le hG hb.size))
  have HLN := hid (logP_len es hs)
  obtain ⟨p, c, rfl, _⟩ := h
  clear hT hs
  by_cases h60 : es.length ≤ 60
  · have d60 : ¬ (es.length : Int) > 60 := by omega
    have hcv : (convert 35 35 (.slice (some ⟨w.heap.size, 0, none⟩) 2 2)).run Tryd.prog (w.alloc (.cells #[.int .u8 81, .int .u8 76] 5)) = .ok (.slice (some ⟨w.heap.size, 0, none⟩) 2 2) (w.alloc (.cells #[.int .u8 81, .int .u8 76] 5 (2, 3))) := Lib.run_convert_bytes_const (P := Tryd.prog) w 35 5 #[.int .u8 81, .int .u8 76] 2 2 Tryd.underlying35 Tryd.underlying5
    have hhp : (w.alloc (.cells #[.int .u8 81, .int .u8 76] 5 (2, 3))).heap[w.heap.size]? = some (.cells #[.int .u8 81, .int .u8 76] 5 (2, 3)) := heap_alloc_new w _
    have hA : BRow (w.alloc (.cells #[.int .u8 81, .int .u8 76] 5 (2, 3))) w.heap.size (.slice (some ⟨w.heap.size, 0, none⟩) 2 2) [81, 76] := .inr ⟨w.heap.size, rfl, Nat.le_refl _, by simp, fun j hj => by
      match j, hj with
      | 0, _ => unfold World.cell?; rw [hhp]; rfl
      | 1, _ => unfold World.cell?; rw [hhp]; rfl⟩
    have CP := hid (put_impl es.length hen [81, 76] (by simp) w.heap.size _ _ (by simp) hA)
    have HBA : Hid (Below w.heap.size w (w.alloc (.cells #[.int .u8 81, .int .u8 76] 5 (2, 3)))) := hid ((Below.refl _ _).alloc (Nat.le_refl _) _)
    have HAO := hid (fun k hk => (hA.lt k hk).1)
    clear hA hhp
    go_enter Tryd.func25, Tryd.ntmps25
    go_wp2_with (go_at_call 102; refine CP.out.mono ?_; rintro e w1 ⟨v1, rfl, hl1, ho1⟩; refine Hid.out ?_)
    refine hid ?_
    have HB1 := hid (HBA.out.trans (hl1.under HAO.out (by simp)))
    have HO1 := hid (show w1.ownsRow w.heap.size 5 1 v1 (logP es 0).length (bys (logP es 0)) by rw [logP_zero]; exact ho1)
    clear hl1 ho1
    go_wp2
    go_loopw [3, 16] (fun dv iv wr => ∃ i : Nat, i ≤ es.length ∧ iv = .int .i64 i ∧ Below w.heap.size w wr ∧ Hid (wr.ownsRow w.heap.size 5 1 dv (logP es i).length (bys (logP es i))) ∧ Hid (∀ j (hj : j < es.length), j < i → rightE es[j] = true)) (fun _ iv _ => es.length - (RowKit.intOf iv).toNat)
    case atStart => exact ⟨0, Nat.zero_le _, rfl, HB1.out, HO1, hid (fun j _ h => absurd h (Nat.not_lt_zero _))⟩
    case round =>
      obtain ⟨i, hi, rfl, hbel, HO, HJ⟩ := hrel
      have HB := hid hbel
      have hzw : w.heap.size ≤ wr.heap.size := hbel.size
      by_cases hlt : i < es.length
      · have hne : es ≠ [] := fun h => by rw [h] at hlt; cases hlt
        obtain ⟨p', c', hv, _, hp⟩ := HF.out
        obtain ⟨rfl, rfl⟩ : p = p' ∧ c = c' := by injection hv with h1 h2 h3; exact ⟨h1, by omega⟩
        obtain ⟨g, o, rfl, hg, hc⟩ := hp hne
        clear hv hp
        have b1 : (0 : Int) ≤ (i : Int) := by omega
        have b2 : (i : Int) < (es.length : Int) := by omega
        have k0 : wr.cell? ⟨g, o + i * 2, none⟩ = some (.int .i64 es[i].x0) := (hbel.cell (p := ⟨g, o + i * 2, none⟩) hg).trans (hc i hlt 0 (by decide))
        have k1 : wr.cell? ⟨g, o + i * 2 + 1, none⟩ = some (.string es[i].x1) := (hbel.cell (p := ⟨g, o + i * 2 + 1, none⟩) hg).trans (hc i hlt 1 (by decide))
        have CRI := hid (fun W hb => CR.out i hlt W hb)
        have HNX := hid (show logP es (i + 1) = ((logP es i ++ [IntKind.u8.wrap es[i].x0]) ++ sevB 3 es[i].x1.size) ++ strI es[i].x1 by rw [logP_next es i hlt]; unfold evB; simp)
        have HRE : Hid (rightE es[i] = decide ((0 ≤ es[i].x0 ∧ es[i].x0 ≤ 7) ∧ (nodeOf es[i].x1).1 ≠ 0)) := hid rfl
        have hsz := HS.out es[i] (List.getElem_mem hlt)
        have hlen := HLN.out i hi
        have HBAD := hid (fun h => logO_bad (evs_bad (es := es) hlt h))
        clear hc hbel
        generalize es[i].x0 = x at *
        generalize es[i].x1 = y at *
        obtain ⟨rb, hrb⟩ : ∃ rb, decide ((0 ≤ x ∧ x ≤ 7) ∧ (nodeOf y).1 ≠ 0) = rb := ⟨_, rfl⟩
        rw [hrb] at CRI HRE
        clear hrb
        obtain ⟨w2, hw2⟩ : ∃ W, W = wr.alloc (.cells #[.int .i64 x, .string y] 141) := ⟨_, rfl⟩
        have hb2 : Below wr.heap.size wr w2 := by rw [hw2]; exact (Below.refl _ _).alloc (Nat.le_refl _) _
        have hz2 : wr.heap.size < w2.heap.size := by rw [hw2]; simp
        have HB2 := hid (HB.out.trans (hb2.mono hzw))
        have HV2 : Hid (w2.heap[wr.heap.size]? = some (.cells #[.int .i64 x, .string y] 141)) := hid (by rw [hw2]; exact heap_alloc_new _ _)
        have HO2 := hid (own_below HO.out hb2)
        have HW2 := hid hw2
        clear hw2
        cases rb with
        | false =>
          go_wp2_with (go_at_call 103; rw [← HW2.out]; refine (CRI.out _ HB2.out).mono ?_; rintro e w3 ⟨rfl, hb3⟩; refine Hid.out ?_)
          refine hid ?_
          have HB3 := hid (HB2.out.trans (hb3.mono HB2.out.size))
          clear hb3 hb2
          go_wp2
          go_ret
          exact log_none (HBAD.out HRE.out) rfl HB3.out (nil_own _ _)
        | true =>
          go_wp2_with (go_at_call 103; rw [← HW2.out]; refine (CRI.out _ HB2.out).mono ?_; rintro e w3 ⟨rfl, hb3⟩; refine Hid.out ?_)
          refine hid ?_
          have hz3 := hb3.size
          have HB3 := hid (HB2.out.trans (hb3.mono HB2.out.size))
          have HV3 := hid ((hb3.block _ hz2).trans HV2.out)
          have HO3 := hid (own_below HO2.out hb3)
          have HLD := hid (HO.out.lt)
          clear hb3 hb2
          have e0 : w3.cell? ⟨wr.heap.size, 0, none⟩ = some (.int .i64 x) := (cell_of_row _ _ 0 _ _ _ HV3.out).trans rfl
          go_wp2_with (at_builtin; refine wp_append_byte rfl _ _ rfl w.heap.size _ _ rfl (HO3.out.alloc _) ⟨w3.heap.size, 0, none⟩ 1 (IntKind.u8.wrap x) rfl ((cell_of_row _ _ 0 _ _ _ (heap_alloc_new w3 _)).trans rfl) (by omega) (by first | omega | (simp; omega)) ?_)
          intro v4 w4 ho4 hg4 hv4
          refine Hid.out ?_
          refine hid ?_
          have hba : Below w3.heap.size w3 (w3.alloc (.cells #[.int .u8 (IntKind.u8.wrap x)] 5)) := (Below.refl _ _).alloc (Nat.le_refl _) _
          have hza : w3.heap.size < (w3.alloc (.cells #[.int .u8 (IntKind.u8.wrap x)] 5)).heap.size := by simp
          have hz4 : w3.heap.size ≤ w4.heap.size := Nat.le_trans (by simp) hg4.size
          have HB4 := hid ((HB3.out.trans (hba.mono HB3.out.size)).grown hg4 (by simp; omega) (fun k hk => (HLD.out k hk).1))
          have HV4 := hid ((hg4.block wr.heap.size (by simp; omega) (fun e => by have := (HLD.out _ e.symm).2; omega)).trans ((hba.block _ (by omega)).trans HV3.out))
          have HO4 := hid (show w4.ownsRow w.heap.size 5 1 v4 (logP es i ++ [IntKind.u8.wrap x]).length (bys (logP es i ++ [IntKind.u8.wrap x])) by first | exact ho4 | (rw [List.length_append]; exact ho4))
          have HN4 : Hid (v4.ownBlock ≠ some wr.heap.size) := hid (fun e => by
            rcases hv4 with h | h
            · have := (HLD.out _ (h ▸ e)).2
              omega
            · have e2 := Option.some.inj (h.symm.trans e)
              omega)
          clear hba ho4 hg4 hv4 e0
          have CP4 := hid (put_impl y.size hsz (logP es i ++ [IntKind.u8.wrap x]) (by rw [List.length_append]; simp; omega) w.heap.size v4 w4 (by omega) (.inl HO4.out))
          have e1 : w4.cell? ⟨wr.heap.size, 1, none⟩ = some (.string y) := (cell_of_row _ _ 1 _ _ _ HV4.out).trans rfl
          go_wp2_with (go_at_call 102; refine CP4.out.mono ?_; rintro e w5 ⟨v5, rfl, hl5, ho5⟩; refine Hid.out ?_)
          refine hid ?_
          have hz5 := hl5.touch.size
          have HB5 := hid (HB4.out.trans (hl5.below HO4.out (Nat.le_refl _) (by omega)))
          have HV5 := hid (hl5.box HV4.out HN4.out)
          have HO5 := hid ho5
          clear hl5 ho5 e1
          have e1 : w5.cell? ⟨wr.heap.size, 1, none⟩ = some (.string y) := (cell_of_row _ _ 1 _ _ _ HV5.out).trans rfl
          obtain ⟨i0, hi0, hy0, hy1, hy2⟩ := info_parts byteInfo
          have hnb := sevB_len 3 y.size
          go_wp2_with (at_builtin; refine Lib.wpList_append_own_string _ rfl _ _ 35 9 rfl w.heap.size 5 i0 Tryd.underlying35 Tryd.underlying9 hi0 hy0 hy1 hy2 v5 _ _ rfl HO5.out y rfl (by simp [maxLen]; omega) (by simp; omega) (by omega) ?_)
          intro v6 w6 ho6 hg6 _
          refine Hid.out ?_
          refine hid ?_
          have HB6 := hid (HB5.out.grown hg6 HB5.out.size (fun k hk => (HO5.out.lt k hk).1))
          have HO6 := hid (show w6.ownsRow w.heap.size 5 1 v6 (logP es (i + 1)).length (bys (logP es (i + 1))) by
            rw [HNX.out, List.length_append, bys_app _ (strI y), strI_len, ← strI_cells]
            simpa using ho6)
          clear ho6 hg6 hi0 hy0 hy1 hy2 e1
          go_wp2
          go_roundw
          case rel => exact ⟨i + 1, by omega, by go_num, HB6.out, HO6, hid (fun j hj hji => (Nat.lt_or_ge j i).elim (fun h => HJ.out j hj h) (fun h => by have e : j = i := (by omega); subst e; exact HRE.out))⟩
          case measure => simp [RowKit.intOf]; omega
      · have hie : i = es.length := by omega
        have HALL := hid (evs_all h60 (fun j hj => HJ.out j hj (by omega)))
        subst hie
        have HO9 := hid HO.out
        clear hbel
        obtain ⟨q, d, rfl⟩ := touch_slice HO.out
        by_cases hlen : (logP es es.length).length ≤ 60000
        · have HZ := hid (logO_good HALL.out hlen)
          have hli : ¬ ((logP es es.length).length : Int) > 60000 := by omega
          go_wp2
          go_ret
          exact log_some HZ.out rfl HB.out HO9.out
        · have HZ := hid (logO_long (Nat.le_refl _) hlen)
          have hli : ((logP es es.length).length : Int) > 60000 := by omega
          go_wp2
          go_ret
          exact log_none HZ.out rfl HB.out (nil_own _ _)
  · have d60 : (es.length : Int) > 60 := by omega
    have HZ := hid (logO_bad (es := es) (by unfold evsB; rw [decide_eq_false h60]; rfl))
    go_enter Tryd.func25, Tryd.ntmps25
    go_wp2
    go_ret
    exact log_none HZ.out rfl (Below.refl _ _) (nil_own _ _)
end Go.Proofs.YtedbhlihdfaaaaaDoor
