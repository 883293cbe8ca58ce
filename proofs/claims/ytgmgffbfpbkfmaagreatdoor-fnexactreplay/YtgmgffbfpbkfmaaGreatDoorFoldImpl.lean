/- Fold, the program's. -/
import Derived.Test.YtgmgffbfpbkfmaaGreatDoorFoldSpec
import Derived.Test.YtgmgffbfpbkfmaaGreatDoorExtImpl2
namespace Go.Proofs.YtgmgffbfpbkfmaaGreatDoor
open Go.RowKit
open Go.Lib (hid)

theorem eight_set {W : World} {b : Nat} {x0 x1 x2 x3 x4 x5 x6 x7 : Value} {t : TypeId} (h : W.heap[b]? = some (.cells #[x0, x1, x2, x3, x4, x5, x6, x7] t)) (v0 v1 v2 v3 v4 v5 v6 v7 : Value) :
    ((((((((W.setCell ⟨b, 0, none⟩ v0).setCell ⟨b, 1, none⟩ v1).setCell ⟨b, 2, none⟩ v2).setCell ⟨b, 3, none⟩ v3).setCell ⟨b, 4, none⟩ v4).setCell ⟨b, 5, none⟩ v5).setCell ⟨b, 6, none⟩ v6).setCell ⟨b, 7, none⟩ v7).heap[b]? = some (.cells #[v0, v1, v2, v3, v4, v5, v6, v7] t) := by
  have h0 : (W.setCell ⟨b, 0, none⟩ v0).heap[b]? = some (.cells #[v0, x1, x2, x3, x4, x5, x6, x7] t) := heap_setCell_same W b 0 _ _ v0 h
  have h1 : ((W.setCell ⟨b, 0, none⟩ v0).setCell ⟨b, 1, none⟩ v1).heap[b]? = some (.cells #[v0, v1, x2, x3, x4, x5, x6, x7] t) := heap_setCell_same (W.setCell ⟨b, 0, none⟩ v0) b 1 _ _ v1 h0
  have h2 : (((W.setCell ⟨b, 0, none⟩ v0).setCell ⟨b, 1, none⟩ v1).setCell ⟨b, 2, none⟩ v2).heap[b]? = some (.cells #[v0, v1, v2, x3, x4, x5, x6, x7] t) := heap_setCell_same ((W.setCell ⟨b, 0, none⟩ v0).setCell ⟨b, 1, none⟩ v1) b 2 _ _ v2 h1
  have h3 : ((((W.setCell ⟨b, 0, none⟩ v0).setCell ⟨b, 1, none⟩ v1).setCell ⟨b, 2, none⟩ v2).setCell ⟨b, 3, none⟩ v3).heap[b]? = some (.cells #[v0, v1, v2, v3, x4, x5, x6, x7] t) := heap_setCell_same (((W.setCell ⟨b, 0, none⟩ v0).setCell ⟨b, 1, none⟩ v1).setCell ⟨b, 2, none⟩ v2) b 3 _ _ v3 h2
  have h4 : (((((W.setCell ⟨b, 0, none⟩ v0).setCell ⟨b, 1, none⟩ v1).setCell ⟨b, 2, none⟩ v2).setCell ⟨b, 3, none⟩ v3).setCell ⟨b, 4, none⟩ v4).heap[b]? = some (.cells #[v0, v1, v2, v3, v4, x5, x6, x7] t) := heap_setCell_same ((((W.setCell ⟨b, 0, none⟩ v0).setCell ⟨b, 1, none⟩ v1).setCell ⟨b, 2, none⟩ v2).setCell ⟨b, 3, none⟩ v3) b 4 _ _ v4 h3
  have h5 : ((((((W.setCell ⟨b, 0, none⟩ v0).setCell ⟨b, 1, none⟩ v1).setCell ⟨b, 2, none⟩ v2).setCell ⟨b, 3, none⟩ v3).setCell ⟨b, 4, none⟩ v4).setCell ⟨b, 5, none⟩ v5).heap[b]? = some (.cells #[v0, v1, v2, v3, v4, v5, x6, x7] t) := heap_setCell_same (((((W.setCell ⟨b, 0, none⟩ v0).setCell ⟨b, 1, none⟩ v1).setCell ⟨b, 2, none⟩ v2).setCell ⟨b, 3, none⟩ v3).setCell ⟨b, 4, none⟩ v4) b 5 _ _ v5 h4
  have h6 : (((((((W.setCell ⟨b, 0, none⟩ v0).setCell ⟨b, 1, none⟩ v1).setCell ⟨b, 2, none⟩ v2).setCell ⟨b, 3, none⟩ v3).setCell ⟨b, 4, none⟩ v4).setCell ⟨b, 5, none⟩ v5).setCell ⟨b, 6, none⟩ v6).heap[b]? = some (.cells #[v0, v1, v2, v3, v4, v5, v6, x7] t) := heap_setCell_same ((((((W.setCell ⟨b, 0, none⟩ v0).setCell ⟨b, 1, none⟩ v1).setCell ⟨b, 2, none⟩ v2).setCell ⟨b, 3, none⟩ v3).setCell ⟨b, 4, none⟩ v4).setCell ⟨b, 5, none⟩ v5) b 6 _ _ v6 h5
  have h7 : ((((((((W.setCell ⟨b, 0, none⟩ v0).setCell ⟨b, 1, none⟩ v1).setCell ⟨b, 2, none⟩ v2).setCell ⟨b, 3, none⟩ v3).setCell ⟨b, 4, none⟩ v4).setCell ⟨b, 5, none⟩ v5).setCell ⟨b, 6, none⟩ v6).setCell ⟨b, 7, none⟩ v7).heap[b]? = some (.cells #[v0, v1, v2, v3, v4, v5, v6, v7] t) := heap_setCell_same (((((((W.setCell ⟨b, 0, none⟩ v0).setCell ⟨b, 1, none⟩ v1).setCell ⟨b, 2, none⟩ v2).setCell ⟨b, 3, none⟩ v3).setCell ⟨b, 4, none⟩ v4).setCell ⟨b, 5, none⟩ v5).setCell ⟨b, 6, none⟩ v6) b 7 _ _ v7 h6
  exact h7

/-- Under right registers Extend answers as its step does. -/
theorem ext_step {ps : List (List UInt8)} (h : regB ps = true) (a : Int) (m : List UInt8) : (extOut ps a m).2 = extB ps a m ∧ (extB ps a m = true → extR ps a m = (strs (extOut ps a m).1).toArray) := by
  unfold extOut extR
  cases hb : extB ps a m with
  | false =>
    refine ⟨?_, fun h => by cases h⟩
    rw [if_neg (fun hc => by
      have : extB ps a m = true := decide_eq_true hc.2
      rw [hb] at this
      cases this)]
  | true =>
    have hc := of_decide_eq_true (show decide (0 ≤ a ∧ a ≤ 7 ∧ madeB 4 (hashOf ps a.toNat m) = true) = true from hb)
    rw [if_pos ⟨h, hc⟩]
    exact ⟨rfl, fun _ => by rw [if_pos rfl]⟩

set_option maxRecDepth 20000 in
set_option maxHeartbeats 4000000 in
theorem fold_impl (es : List EventD) (hn : es.length ≤ 1048576) (a : Value) (w : World) (ha : FRow encEvent 2 w a es) (hT : Tab w) (hG : 0 < w.heap.size) :
    Calls Tryz.prog 58 #[a] w (FoldPost es w) := by
  unfold FoldPost
  obtain ⟨p, c, rfl, _, hp⟩ := ha
  have HP := hid hp
  have HTA := hid hT
  clear hp hT
  by_cases h60 : es.length ≤ 60
  · have HOUT : Hid (foldOut es = tellO (foldO (resets 8) es)) := hid (by unfold foldOut; rw [if_pos h60])
    have h60b : ¬ (es.length : Int) > 60 := by omega
    go_enter Tryz.func58, Tryz.ntmps58
    go_wp2_with (go_at_call 118; refine (clearedRegs_calls _).mono ?_; rintro e w1 ⟨rfl, hb1⟩; refine Hid.out ?_)
    refine hid ?_
    have HB1 := hid (hb1.alloc hb1.size (.cells (strs (resets 8)).toArray 171))
    have HC1 : Hid ((w1.alloc (.cells (strs (resets 8)).toArray 171)).heap[w1.heap.size]? = some (.cells (strs (resets 8)).toArray 171)) := hid (heap_alloc_new _ _)
    have hz1 := hb1.size
    clear hb1
    unfold resetA
    go_wp2
    go_loopw [15] (fun iv wr => ∃ i : Nat, ∃ q, i ≤ es.length ∧ iv = .int .i64 i ∧ Below w.heap.size w wr ∧ w1.heap.size < wr.heap.size ∧ foldO (resets 8) (es.take i) = some q ∧ wr.heap[w1.heap.size]? = some (.cells (strs q).toArray 171)) (fun iv _ => es.length - (RowKit.intOf iv).toNat)
    case atStart => exact ⟨0, _, Nat.zero_le _, rfl, HB1.out, by simp, rfl, HC1.out⟩
    case round =>
      obtain ⟨i, q, hi, rfl, hbel, hzr, hq, hblk⟩ := hrel
      have HB := hid hbel
      have HBK := hid hblk
      have HQ := hid hq
      have hr := fold_regs _ _ _ resets_regs hq
      have h8 := (reg_short hr).1
      by_cases hlt : i < es.length
      · obtain ⟨g, o, rfl, hg, hc⟩ := HP.out (fun h => by rw [h] at hlt; cases hlt)
        have HN := hid (foldO_succ (resets 8) es i hlt hq)
        have HF := hid (fun (h : foldO (resets 8) (es.take (i + 1)) = none) => foldO_fell (resets 8) es (i + 1) h)
        have k0 : wr.cell? ⟨g, o + i * 2, none⟩ = some (.int .i64 es[i].x0) := by rw [hbel.cell (p := ⟨g, o + i * 2, none⟩) hg]; exact hc i hlt 0 (by decide)
        have k1 : wr.cell? ⟨g, o + i * 2 + 1, none⟩ = some (.string es[i].x1) := by rw [hbel.cell (p := ⟨g, o + i * 2 + 1, none⟩) hg]; exact hc i hlt 1 (by decide)
        have CE := hid (fun (W : World) hT hG => extd_calls q h8 es[i].x0 es[i].x1.data.toList W hT hG)
        rw [show bytesOf es[i].x1.data.toList = es[i].x1 from back_bytes _] at CE
        have HST := hid (ext_step hr es[i].x0 es[i].x1.data.toList)
        have b1 : (0 : Int) ≤ (i : Int) := by omega
        have b2 : (i : Int) < (es.length : Int) := by omega
        have hgw : g < wr.heap.size := Nat.lt_of_lt_of_le hg hbel.size
        obtain ⟨y0, y1, y2, y3, y4, y5, y6, y7, hx⟩ := eight h8
        have hV : (strs q).toArray = #[.string (bytesOf y0), .string (bytesOf y1), .string (bytesOf y2), .string (bytesOf y3), .string (bytesOf y4), .string (bytesOf y5), .string (bytesOf y6), .string (bytesOf y7)] := by rw [hx]; rfl
        rw [hV] at CE HBK
        have hEL : extB q es[i].x0 es[i].x1.data.toList = true → ∃ z0 z1 z2 z3 z4 z5 z6 z7 : ByteArray, extR q es[i].x0 es[i].x1.data.toList = #[.string z0, .string z1, .string z2, .string z3, .string z4, .string z5, .string z6, .string z7] := fun h => by
          rw [HST.out.2 h]
          obtain ⟨z0, z1, z2, z3, z4, z5, z6, z7, hz⟩ := eight ((reg_short (ext_regs (by rw [HST.out.1]; exact h))).1)
          exact ⟨bytesOf z0, bytesOf z1, bytesOf z2, bytesOf z3, bytesOf z4, bytesOf z5, bytesOf z6, bytesOf z7, by rw [hz]; rfl⟩
        have hEZ : extB q es[i].x0 es[i].x1.data.toList = false → extR q es[i].x0 es[i].x1.data.toList = zeroR := fun h => by unfold extR; rw [h, if_neg (by decide)]
        clear hc hbel hq hr h8 hx hV hblk
        generalize es[i] = ei at *
        obtain ⟨x0, x1⟩ := ei
        dsimp only at *
        have HEL := hid hEL
        have HEZ := hid hEZ
        clear hEL hEZ
        generalize (extOut q x0 x1.data.toList).2 = b at *
        generalize (extOut q x0 x1.data.toList).1 = L at *
        generalize extB q x0 x1.data.toList = b2 at *
        generalize extR q x0 x1.data.toList = R at *
        obtain ⟨hbb, hRL⟩ := HST.out
        subst hbb
        have HRL := hid hRL
        clear hRL HST
        generalize bytesOf y0 = v0 at *
        generalize bytesOf y1 = v1 at *
        generalize bytesOf y2 = v2 at *
        generalize bytesOf y3 = v3 at *
        generalize bytesOf y4 = v4 at *
        generalize bytesOf y5 = v5 at *
        generalize bytesOf y6 = v6 at *
        generalize bytesOf y7 = v7 at *
        obtain ⟨r0, r1, r2, r3, r4, r5, r6, r7⟩ := eight_cells HBK.out
        obtain ⟨W2, hW2⟩ : ∃ W2, W2 = wr.alloc (.cells #[.int .i64 x0, .string x1] 131) := ⟨_, rfl⟩
        have hb2 : Below wr.heap.size wr W2 := by rw [hW2]; exact (Below.refl _ _).alloc (Nat.le_refl _) _
        have HB2 := hid (HB.out.trans (hb2.mono HB.out.size))
        have HBK2 := hid ((hb2.block _ hzr).trans HBK.out)
        have hz2 : wr.heap.size < W2.heap.size := by rw [hW2]; simp
        have HT2 := hid (tab_on HTA.out hG HB2.out)
        have hG2 := Nat.lt_of_lt_of_le hG HB2.out.size
        have HW2 := hid hW2
        clear hb2 hW2
        cases b with
        | false =>
          have HX : Hid (foldO (resets 8) es = none) := hid (HF.out HN.out)
          have hRz := HEZ.out rfl
          subst hRz
          unfold zeroR at CE
          go_wp2_with (go_at_call 119; rw [← HW2.out]; refine (CE.out _ HT2.out hG2).mono ?_; rintro e w3 ⟨rfl, hb3⟩; refine Hid.out ?_)
          refine hid ?_
          have HB3 := hid (HB2.out.trans (hb3.mono HB2.out.size))
          clear hb3 r0 r1 r2 r3 r4 r5 r6 r7
          go_wp2
          go_ret2
          rw [HOUT.out, HX.out]
          exact ⟨_, rfl, HB3.out.alloc HB3.out.size _, World.ownsRow_nil _ _ _ _⟩
        | true =>
          obtain ⟨z0, z1, z2, z3, z4, z5, z6, z7, hR⟩ := HEL.out rfl
          subst hR
          go_wp2_with (go_at_call 119; rw [← HW2.out]; refine (CE.out _ HT2.out hG2).mono ?_; rintro e w3 ⟨rfl, hb3⟩; refine Hid.out ?_)
          refine hid ?_
          have HB3 := hid (HB2.out.trans (hb3.mono HB2.out.size))
          have HBK3 := hid ((hb3.block _ (by omega)).trans HBK2.out)
          have hz3 := hb3.size
          clear hb3 r0 r1 r2 r3 r4 r5 r6 r7
          have f := eight_thaw HBK3.out
          have hz4 : w1.heap.size < w3.heap.size := by omega
          have HRL2 := hid (HRL.out (by simp))
          obtain ⟨r0, r1, r2, r3, r4, r5, r6, r7⟩ := eight_cells HBK3.out
          have f0 := f 0
          have f1 := f 1
          have f2 := f 2
          have f3 := f 3
          have f4 := f 4
          have f5 := f 5
          have f6 := f 6
          have f7 := f 7
          clear f
          go_wp2
          go_roundw
          case rel =>
            refine ⟨i + 1, L, by omega, by go_num, ?_, ?_, HN.out, ?_⟩
            · have hbe := below_eight HB3.out (show w.heap.size ≤ w1.heap.size from hz1) (.string z0) (.string z1) (.string z2) (.string z3) (.string z4) (.string z5) (.string z6) (.string z7)
              exact hbe.alloc hbe.size _
            · simp; omega
            · rw [← HRL2.out]
              have hset := eight_set HBK3.out (.string z0) (.string z1) (.string z2) (.string z3) (.string z4) (.string z5) (.string z6) (.string z7)
              exact (heap_alloc_old _ _ (by simp; omega)).trans hset
          case measure => simp [RowKit.intOf]; omega
      · have hie : i = es.length := by omega
        subst hie
        have hq2 : foldO (resets 8) es = some q := by have := HQ.out; rw [List.take_of_length_le (Nat.le_refl _)] at this; exact this
        have CL := hid (fun W => list_any q h8 W)
        obtain ⟨y0, y1, y2, y3, y4, y5, y6, y7, hx⟩ := eight h8
        have hV : (strs q).toArray = #[.string (bytesOf y0), .string (bytesOf y1), .string (bytesOf y2), .string (bytesOf y3), .string (bytesOf y4), .string (bytesOf y5), .string (bytesOf y6), .string (bytesOf y7)] := by rw [hx]; rfl
        rw [hV] at CL HBK
        have HQ2 := hid hq2
        clear hq2 hbel hq hr h8 hx hV hblk
        obtain ⟨r0, r1, r2, r3, r4, r5, r6, r7⟩ := eight_cells HBK.out
        go_wp2_with (go_at_call 120; refine (CL.out _).mono ?_; rintro e w3 ⟨sv3, rfl, hb3, ho3⟩; refine Hid.out ?_)
        refine hid ?_
        have HB3 := hid (HB.out.trans (hb3.mono HB.out.size))
        have HO3 := hid ho3
        clear hb3 ho3 r0 r1 r2 r3 r4 r5 r6 r7
        go_wp2
        go_ret2
        rw [HOUT.out, HQ2.out]
        exact ⟨_, rfl, HB3.out, own_base HO3.out HB.out.size⟩
  · have HOUT : Hid (foldOut es = ([], false)) := hid (by unfold foldOut; rw [if_neg h60])
    have h60b : (es.length : Int) > 60 := by omega
    rw [HOUT.out]
    go_enter Tryz.func58, Tryz.ntmps58
    go_wp2
    go_ret2
    exact ⟨_, rfl, Below.refl _ _, World.ownsRow_nil _ _ _ _⟩
end Go.Proofs.YtgmgffbfpbkfmaaGreatDoor
