/- Laid together: UnsPlain, UnsSpec, UnsImpl. -/
import Derived.Test.YtponjghppnpnhaaDoorPackVlt
import Derived.Test.YtponjghppnpnhaaDoorCompBoth

namespace Go.Proofs.YtponjghppnpnhaaDoor
open Go.RowKit
open Go.Lib (hid)

/-- The first seal in a slot. -/
def pickO (es : List SealD) (slot : Int) : Option SealD := es.find? (fun e => decide (e.x0 = slot))

/-- What a seal that was found gives. -/
def openO (ps : List (List UInt8)) (e : SealD) : ByteArray × Int := if (compOut ps e.x1).1 = true ∧ bytesOf (compOut ps e.x1).2 = e.x2 then (e.x3, 0) else (⟨#[]⟩, 4)

def unsO (es : List SealD) (st : Int) (q : SealD) (ps : List (List UInt8)) (slot : Int) : ByteArray × Int :=
  if vaultB es st q = true ∧ st = 0 then
    (if regB ps = true then (match pickO es slot with | none => (⟨#[]⟩, 3) | some e => openO ps e) else (⟨#[]⟩, 2))
  else (⟨#[]⟩, 1)

theorem pick_step {es : List SealD} {slot : Int} {i : Nat} (h : i < es.length) (hp : pickO es slot = (es.drop i).find? (fun e => decide (e.x0 = slot))) (hn : es[i].x0 ≠ slot) : pickO es slot = (es.drop (i + 1)).find? (fun e => decide (e.x0 = slot)) := by
  rw [hp, List.drop_eq_getElem_cons h, List.find?_cons, decide_eq_false hn]

theorem pick_here {es : List SealD} {slot : Int} {i : Nat} (h : i < es.length) (hp : pickO es slot = (es.drop i).find? (fun e => decide (e.x0 = slot))) (hy : es[i].x0 = slot) : pickO es slot = some es[i] := by
  rw [hp, List.drop_eq_getElem_cons h, List.find?_cons, decide_eq_true hy]

theorem pick_end {es : List SealD} {slot : Int} (hp : pickO es slot = (es.drop es.length).find? (fun e => decide (e.x0 = slot))) : pickO es slot = none := by
  rw [hp, List.drop_eq_nil_of_le (Nat.le_refl _)]
  rfl

theorem want_test (l : List UInt8) (x : ByteArray) : ((bytesOf l).toList == x.toList) = decide (bytesOf l = x) := by
  rw [Bool.eq_iff_iff, beq_iff_eq, decide_eq_true_iff]
  constructor
  · intro h
    rw [Lib.toList_data, Lib.toList_data] at h
    apply ByteArray.ext
    exact Array.toList_inj.1 h
  · intro h; rw [h]

theorem reg_eight (ps : List (List UInt8)) : ∃ r0 r1 r2 r3 r4 r5 r6 r7 : ByteArray, regV ps = #[.string r0, .string r1, .string r2, .string r3, .string r4, .string r5, .string r6, .string r7] := by
  unfold regV
  by_cases h : regB ps = true
  · rw [if_pos h]
    obtain ⟨x0, x1, x2, x3, x4, x5, x6, x7, hx⟩ := eight ((regB_iff ps).1 h).1
    exact ⟨bytesOf x0, bytesOf x1, bytesOf x2, bytesOf x3, bytesOf x4, bytesOf x5, bytesOf x6, bytesOf x7, by rw [hx]; rfl⟩
  · rw [if_neg h]
    exact ⟨_, _, _, _, _, _, _, _, rfl⟩
end Go.Proofs.YtponjghppnpnhaaDoor

namespace Go.Proofs.YtponjghppnpnhaaDoor
open Go.RowKit
open Go.Lib (hid)

set_option maxRecDepth 20000 in
set_option maxHeartbeats 4000000 in
theorem uns_spec (es : List SealD) (hn : es.length ≤ 1048576) (hs : ∀ e ∈ es, e.x2.size ≤ 1048576 ∧ e.x3.size ≤ 1048576) (st y0 y1 : Int) (y2 y3 : ByteArray) (hy2 : y2.size ≤ 1048576) (hy3 : y3.size ≤ 1048576) (ps : List (List UInt8)) (hps : ∀ p ∈ ps, p.length ≤ 1048576) (hpn : ps.length ≤ 1048576) (slot : Int) (a b : Value) (w : World) (ha : FRow encSeal 4 w a es) (hb : TextsAt w b ps) :
    Calls Tryd.prog 44 #[.agg #[a, .int .i64 st, .int .i64 y0, .int .i64 y1, .string y2, .string y3], b, .int .i64 slot] w fun e w' => e = .returned (.tuple #[.string (unsO es st ⟨y0, y1, y2, y3⟩ ps slot).1, .int .i64 (unsO es st ⟨y0, y1, y2, y3⟩ ps slot).2]) ∧ Below w.heap.size w w' := by
  have HFa := hid ha
  have HFb := hid hb
  have CV := hid (fun W ha => vault_spec es hn hs st y0 y1 y2 y3 hy2 hy3 a W ha)
  have CR := hid (fun W hb => regs_spec ps hps hpn b W hb)
  have CC := hid (fun mask W hb => comp_spec ps hps hpn mask b W hb)
  unfold MadeOut at CC
  have HO : Hid (unsO es st ⟨y0, y1, y2, y3⟩ ps slot = if vaultB es st ⟨y0, y1, y2, y3⟩ = true ∧ st = 0 then (if regB ps = true then (match pickO es slot with | none => (⟨#[]⟩, 3) | some e => openO ps e) else (⟨#[]⟩, 2)) else (⟨#[]⟩, 1)) := hid rfl
  obtain ⟨p, c, rfl, _, hrest⟩ := ha
  obtain ⟨q, d, rfl, hrest2⟩ := hb
  clear hrest hrest2 hs hy2 hy3
  generalize unsO es st ⟨y0, y1, y2, y3⟩ ps slot = ro at *
  generalize vaultB es st ⟨y0, y1, y2, y3⟩ = rv at *
  generalize regB ps = rr at *
  have HB0_0 : Hid (Below w.heap.size w w) := hid (Below.refl _ _)
  have hz0 : w.heap.size ≤ w.heap.size := Nat.le_refl _
  obtain ⟨w1, hw1⟩ : ∃ W, W = w.alloc (.cells #[.slice p es.length c, .int .i64 st, .int .i64 y0, .int .i64 y1, .string y2, .string y3] 70) := ⟨_, rfl⟩
  have hb1 : Below w.heap.size w w1 := by rw [hw1]; exact (Below.refl _ _).alloc (Nat.le_refl _) _
  have hz1 : w.heap.size < w1.heap.size := by rw [hw1]; simp
  have HVV_1 : Hid (w1.heap[w.heap.size]? = some (.cells #[.slice p es.length c, .int .i64 st, .int .i64 y0, .int .i64 y1, .string y2, .string y3] 70)) := hid (by rw [hw1]; exact heap_alloc_new _ _)
  have HW1 := hid hw1
  have HB0_1 := hid (HB0_0.out.trans (hb1.mono HB0_0.out.size))
  clear hw1 hb1
  cases rv with
  | false =>
    have HZ : Hid (ro = (⟨#[]⟩, 1)) := hid (by rw [HO.out, if_neg (fun h => by cases h.1)])
    go_enter Tryd.func44, Tryd.ntmps44
    go_wp2_with (go_at_call 34; rw [← HW1.out]; refine (CV.out _ (HFa.out.on HB0_1.out)).mono ?_; rintro e w2 ⟨rfl, hb2⟩; refine Hid.out ?_)
    refine hid ?_
    have hz2 := hb2.size
    have HB0_2 := hid (HB0_1.out.trans (hb2.mono HB0_1.out.size))
    have HVV_2 := hid ((hb2.block _ (by omega)).trans HVV_1.out)
    clear HB0_1 HVV_1
    clear hb2
    go_wp2
    go_ret2
    exact ⟨by rw [HZ.out] <;> rfl, HB0_2.out⟩
  | true =>
    by_cases h0 : st = 0
    · subst h0
      rw [if_pos ⟨rfl, rfl⟩] at HO
      cases rr with
      | false =>
        have HZ : Hid (ro = (⟨#[]⟩, 2)) := hid (by rw [HO.out, if_neg (by decide)])
        go_enter Tryd.func44, Tryd.ntmps44
        go_wp2_with (go_at_call 34; rw [← HW1.out]; refine (CV.out _ (HFa.out.on HB0_1.out)).mono ?_; rintro e w2 ⟨rfl, hb2⟩; refine Hid.out ?_)
        refine hid ?_
        have hz2 := hb2.size
        have HB0_2 := hid (HB0_1.out.trans (hb2.mono HB0_1.out.size))
        have HVV_2 := hid ((hb2.block _ (by omega)).trans HVV_1.out)
        clear HB0_1 HVV_1
        clear hb2
        have k_V_0 := (cell_of_row _ _ 0 _ _ _ HVV_2.out).trans rfl
        have k_V_1 := (cell_of_row _ _ 1 _ _ _ HVV_2.out).trans rfl
        have k_V_2 := (cell_of_row _ _ 2 _ _ _ HVV_2.out).trans rfl
        have k_V_3 := (cell_of_row _ _ 3 _ _ _ HVV_2.out).trans rfl
        have k_V_4 := (cell_of_row _ _ 4 _ _ _ HVV_2.out).trans rfl
        have k_V_5 := (cell_of_row _ _ 5 _ _ _ HVV_2.out).trans rfl
        go_wp2_with (go_at_call 90; refine (CR.out _ (HFb.out.on HB0_2.out)).mono ?_; rintro e w3 ⟨rfl, hb3⟩; refine Hid.out ?_)
        refine hid ?_
        clear k_V_0 k_V_1 k_V_2 k_V_3 k_V_4 k_V_5
        have hz3 := hb3.size
        have HB0_3 := hid (HB0_2.out.trans (hb3.mono HB0_2.out.size))
        have HVV_3 := hid ((hb3.block _ (by omega)).trans HVV_2.out)
        clear HB0_2 HVV_2
        clear hb3
        go_wp2
        go_ret2
        exact ⟨by rw [HZ.out] <;> rfl, HB0_3.out⟩
      | true =>
        rw [if_pos rfl] at HO
        go_enter Tryd.func44, Tryd.ntmps44
        go_wp2_with (go_at_call 34; rw [← HW1.out]; refine (CV.out _ (HFa.out.on HB0_1.out)).mono ?_; rintro e w2 ⟨rfl, hb2⟩; refine Hid.out ?_)
        refine hid ?_
        have hz2 := hb2.size
        have HB0_2 := hid (HB0_1.out.trans (hb2.mono HB0_1.out.size))
        have HVV_2 := hid ((hb2.block _ (by omega)).trans HVV_1.out)
        clear HB0_1 HVV_1
        clear hb2
        have k_V_0 := (cell_of_row _ _ 0 _ _ _ HVV_2.out).trans rfl
        have k_V_1 := (cell_of_row _ _ 1 _ _ _ HVV_2.out).trans rfl
        have k_V_2 := (cell_of_row _ _ 2 _ _ _ HVV_2.out).trans rfl
        have k_V_3 := (cell_of_row _ _ 3 _ _ _ HVV_2.out).trans rfl
        have k_V_4 := (cell_of_row _ _ 4 _ _ _ HVV_2.out).trans rfl
        have k_V_5 := (cell_of_row _ _ 5 _ _ _ HVV_2.out).trans rfl
        go_wp2_with (go_at_call 90; refine (CR.out _ (HFb.out.on HB0_2.out)).mono ?_; rintro e w3 ⟨rfl, hb3⟩; refine Hid.out ?_)
        refine hid ?_
        clear k_V_0 k_V_1 k_V_2 k_V_3 k_V_4 k_V_5
        have hz3 := hb3.size
        have HB0_3 := hid (HB0_2.out.trans (hb3.mono HB0_2.out.size))
        have HVV_3 := hid ((hb3.block _ (by omega)).trans HVV_2.out)
        clear HB0_2 HVV_2
        clear hb3
        have HBX := HB0_3.out
        have HVX := HVV_3.out
        go_wp2
        go_loopw [8] (fun iv wr => ∃ i : Nat, i ≤ es.length ∧ iv = .int .i64 i ∧ Below w.heap.size w wr ∧ wr.heap[w.heap.size]? = some (.cells #[.slice p es.length c, .int .i64 0, .int .i64 y0, .int .i64 y1, .string y2, .string y3] 70) ∧ Hid (pickO es slot = (es.drop i).find? (fun e => decide (e.x0 = slot)))) (fun iv _ => es.length - (RowKit.intOf iv).toNat)
        case atStart => exact ⟨0, Nat.zero_le _, rfl, HBX, HVX, hid rfl⟩
        case round =>
          obtain ⟨i, hi, rfl, hbel, hbox, HP⟩ := hrel
          have HB := hid hbel
          have HX := hid hbox
          obtain ⟨k0, k1, k2, k3, k4, k5⟩ := six_cells hbox
          have hzr : w.heap.size < wr.heap.size := (Array.getElem?_eq_some_iff.1 hbox).1
          by_cases hlt : i < es.length
          · have hne : es ≠ [] := fun h => by rw [h] at hlt; cases hlt
            obtain ⟨p', c', hv, _, hp⟩ := HFa.out
            obtain ⟨rfl, rfl⟩ : p = p' ∧ c = c' := by injection hv with h1 h2 h3; exact ⟨h1, by omega⟩
            obtain ⟨g, o, rfl, hg, hc⟩ := hp hne
            clear hv hp
            have b1 : (0 : Int) ≤ (i : Int) := by omega
            have b2 : (i : Int) < (es.length : Int) := by omega
            have m0 : wr.cell? ⟨g, o + i * 4, none⟩ = some (.int .i64 es[i].x0) := (hbel.cell (p := ⟨g, o + i * 4, none⟩) hg).trans (hc i hlt 0 (by decide))
            have m1 : wr.cell? ⟨g, o + i * 4 + 1, none⟩ = some (.int .i64 es[i].x1) := (hbel.cell (p := ⟨g, o + i * 4 + 1, none⟩) hg).trans (hc i hlt 1 (by decide))
            have m2 : wr.cell? ⟨g, o + i * 4 + 2, none⟩ = some (.string es[i].x2) := (hbel.cell (p := ⟨g, o + i * 4 + 2, none⟩) hg).trans (hc i hlt 2 (by decide))
            have m3 : wr.cell? ⟨g, o + i * 4 + 3, none⟩ = some (.string es[i].x3) := (hbel.cell (p := ⟨g, o + i * 4 + 3, none⟩) hg).trans (hc i hlt 3 (by decide))
            have HST := hid (pick_step hlt HP.out)
            have HHE := hid (pick_here hlt HP.out)
            clear hc hbel hbox HP
            generalize es[i] = ei at *
            obtain ⟨x0, x1, x2, x3⟩ := ei
            dsimp only at *
            by_cases hsl : x0 = slot
            · subst hsl
              have HM := hid (HHE.out rfl)
              rw [HM.out] at HO
              dsimp only at HO
              have HOP : Hid (openO ps ⟨x0, x1, x2, x3⟩ = if (compOut ps x1).1 = true ∧ bytesOf (compOut ps x1).2 = x2 then (x3, 0) else (⟨#[]⟩, 4)) := hid rfl
              have CX := hid (fun W hb => CC.out x1 W hb)
              have HWT := hid (want_test (compOut ps x1).2 x2)
              have hne1 : (x0 != x0) = false := by simp
              generalize (compOut ps x1).1 = ok at *
              generalize bytesOf (compOut ps x1).2 = t at *
              obtain ⟨y, hy⟩ : ∃ y : ByteArray, (if ok = true then t else ⟨#[]⟩) = y := ⟨_, rfl⟩
              rw [hy] at CX
              have HYY := hid hy
              clear hy
              have hb2 : Below wr.heap.size wr (wr.alloc (.cells #[.int .i64 x0, .int .i64 x1, .string x2, .string x3] 68)) := (Below.refl _ _).alloc (Nat.le_refl _) _
              have HB2 := hid (HB.out.trans (hb2.mono HB.out.size))
              have HV2 : Hid ((wr.alloc (.cells #[.int .i64 x0, .int .i64 x1, .string x2, .string x3] 68)).heap[wr.heap.size]? = some (.cells #[.int .i64 x0, .int .i64 x1, .string x2, .string x3] 68)) := hid (heap_alloc_new _ _)
              clear hb2 HHE HST CC
              go_wp2_with (go_at_call 13; refine (CX.out _ (HFb.out.on HB2.out)).mono ?_; rintro e w8 ⟨rfl, hb8⟩; refine Hid.out ?_)
              refine hid ?_
              have HB8 := hid (HB2.out.trans (hb8.mono HB2.out.size))
              have HV8 := hid ((hb8.block _ (by simp)).trans HV2.out)
              clear hb8 k0 k1 k2 k3 k4 k5 m0 m1 m2 m3
              have k0 := (cell_of_row _ _ 0 _ _ _ HV8.out).trans rfl
              have k1 := (cell_of_row _ _ 1 _ _ _ HV8.out).trans rfl
              have k2 := (cell_of_row _ _ 2 _ _ _ HV8.out).trans rfl
              have k3 := (cell_of_row _ _ 3 _ _ _ HV8.out).trans rfl
              cases ok with
              | false =>
                have HZ : Hid (ro = (⟨#[]⟩, 4)) := hid (by rw [HO.out, HOP.out, if_neg (fun h => by cases h.1)])
                go_wp2
                go_ret2
                exact ⟨by rw [HZ.out] <;> rfl, HB8.out⟩
              | true =>
                obtain rfl : t = y := by have h := HYY.out; rwa [if_pos rfl] at h
                by_cases ht : t = x2
                · have HZ : Hid (ro = (x3, 0)) := hid (by rw [HO.out, HOP.out, if_pos ⟨rfl, ht⟩])
                  have hte := HWT.out
                  rw [decide_eq_true ht] at hte
                  clear ht HWT
                  go_wp2
                  go_ret2
                  exact ⟨by rw [HZ.out] <;> rfl, HB8.out⟩
                · have HZ : Hid (ro = (⟨#[]⟩, 4)) := hid (by rw [HO.out, HOP.out, if_neg (fun h => ht h.2)])
                  have hte := HWT.out
                  rw [decide_eq_false ht] at hte
                  clear ht HWT
                  go_wp2
                  go_ret2
                  exact ⟨by rw [HZ.out] <;> rfl, HB8.out⟩
            · have hne1 : (x0 != slot) = true := by simp; exact hsl
              have HP2 := hid (HST.out hsl)
              clear HST HHE hsl CC
              have HB2 := hid (HB.out.alloc HB.out.size (.cells #[.int .i64 x0, .int .i64 x1, .string x2, .string x3] 68))
              have HX2 := hid ((((Below.refl wr.heap.size wr).alloc (Nat.le_refl _) (.cells #[.int .i64 x0, .int .i64 x1, .string x2, .string x3] 68)).block _ hzr).trans HX.out)
              go_wp2
              go_roundw
              case rel => exact ⟨i + 1, by omega, by go_num, HB2.out, HX2.out, HP2⟩
              case measure => simp [RowKit.intOf]; omega
          · have hie : i = es.length := by omega
            subst hie
            have HM := hid (pick_end HP.out)
            rw [HM.out] at HO
            dsimp only at HO
            go_wp2
            go_ret2
            exact ⟨by rw [HO.out] <;> rfl, HB.out⟩
    · have HZ : Hid (ro = (⟨#[]⟩, 1)) := hid (by rw [HO.out, if_neg (fun h => h0 h.2)])
      have e0 : (st != 0) = true := by simp; exact h0
      go_enter Tryd.func44, Tryd.ntmps44
      go_wp2_with (go_at_call 34; rw [← HW1.out]; refine (CV.out _ (HFa.out.on HB0_1.out)).mono ?_; rintro e w2 ⟨rfl, hb2⟩; refine Hid.out ?_)
      refine hid ?_
      have hz2 := hb2.size
      have HB0_2 := hid (HB0_1.out.trans (hb2.mono HB0_1.out.size))
      have HVV_2 := hid ((hb2.block _ (by omega)).trans HVV_1.out)
      clear HB0_1 HVV_1
      clear hb2
      have k_V_0 := (cell_of_row _ _ 0 _ _ _ HVV_2.out).trans rfl
      have k_V_1 := (cell_of_row _ _ 1 _ _ _ HVV_2.out).trans rfl
      have k_V_2 := (cell_of_row _ _ 2 _ _ _ HVV_2.out).trans rfl
      have k_V_3 := (cell_of_row _ _ 3 _ _ _ HVV_2.out).trans rfl
      have k_V_4 := (cell_of_row _ _ 4 _ _ _ HVV_2.out).trans rfl
      have k_V_5 := (cell_of_row _ _ 5 _ _ _ HVV_2.out).trans rfl
      go_wp2
      go_ret2
      exact ⟨by rw [HZ.out] <;> rfl, HB0_2.out⟩
end Go.Proofs.YtponjghppnpnhaaDoor

namespace Go.Proofs.YtponjghppnpnhaaDoor
open Go.RowKit
open Go.Lib (hid)

set_option maxRecDepth 20000 in
set_option maxHeartbeats 4000000 in
theorem unsAt_calls (x0 x1 : Int) (x2 x3 : ByteArray) (slot : Int) (bb : Nat) (w : World) (hbl : bb < w.heap.size) (hb : w.cell? ⟨bb, 0, none⟩ = some (.int .i64 slot)) :
    Calls Tryd.prog 93 #[.agg #[.int .i64 x0, .int .i64 x1, .string x2, .string x3], .pointer (some ⟨bb, 0, none⟩)] w fun e w' => e = .returned (.bool (x0 == slot)) ∧ Below w.heap.size w w' := by
  have h2 : (w.alloc (.cells #[.int .i64 x0, .int .i64 x1, .string x2, .string x3] 68)).cell? ⟨bb, 0, none⟩ = some (.int .i64 slot) := (((Below.refl _ w).alloc (Nat.le_refl _) _).cell (p := ⟨bb, 0, none⟩) hbl).trans hb
  go_enter Tryd.func93, Tryd.ntmps93
  go_wp2
  go_ret
  exact ⟨rfl, (Below.refl _ _).alloc (Nat.le_refl _) _⟩

set_option maxRecDepth 20000 in
set_option maxHeartbeats 4000000 in
theorem index_calls (es : List SealD) (hn : es.length ≤ 1048576) (slot : Int) (bb : Nat) (a : Value) (w : World) (ha : FRow encSeal 4 w a es) (hbl : bb < w.heap.size) (hb : w.cell? ⟨bb, 0, none⟩ = some (.int .i64 slot)) :
    Calls Tryd.prog 92 #[a, .func (.func 93) #[] #[.pointer (some ⟨bb, 0, none⟩)]] w fun e w' => ∃ z : Int, e = .returned (.int .i64 z) ∧ ((z = -1 ∧ pickO es slot = none) ∨ ∃ (k : Nat) (h : k < es.length), z = (k : Nat) ∧ pickO es slot = some es[k]) ∧ Below w.heap.size w w' := by
  have HFa := hid ha
  have CU := hid (fun (x0 x1 : Int) (x2 x3 : ByteArray) W (h : Below w.heap.size w W) => unsAt_calls x0 x1 x2 x3 slot bb W (Nat.lt_of_lt_of_le hbl h.size) ((h.cell (p := ⟨bb, 0, none⟩) hbl).trans hb))
  obtain ⟨p, c, rfl, _, hrest⟩ := ha
  clear hrest hb hbl
  go_enter Tryd.func92, Tryd.ntmps92
  go_wp2
  go_loopw [8] (fun iv wr => ∃ i : Nat, i ≤ es.length ∧ iv = .int .i64 i ∧ Below w.heap.size w wr ∧ Hid (pickO es slot = (es.drop i).find? (fun e => decide (e.x0 = slot)))) (fun iv _ => es.length - (RowKit.intOf iv).toNat)
  case atStart => exact ⟨0, Nat.zero_le _, rfl, Below.refl _ _, hid rfl⟩
  case round =>
    obtain ⟨i, hi, rfl, hbel, HP⟩ := hrel
    have HB := hid hbel
    by_cases hlt : i < es.length
    · have hne : es ≠ [] := fun h => by rw [h] at hlt; cases hlt
      obtain ⟨p', c', hv, _, hp⟩ := HFa.out
      obtain ⟨rfl, rfl⟩ : p = p' ∧ c = c' := by injection hv with h1 h2 h3; exact ⟨h1, by omega⟩
      obtain ⟨g, o, rfl, hg, hc⟩ := hp hne
      clear hv hp
      have b1 : (0 : Int) ≤ (i : Int) := by omega
      have b2 : (i : Int) < (es.length : Int) := by omega
      have m0 : wr.cell? ⟨g, o + i * 4, none⟩ = some (.int .i64 es[i].x0) := (hbel.cell (p := ⟨g, o + i * 4, none⟩) hg).trans (hc i hlt 0 (by decide))
      have m1 : wr.cell? ⟨g, o + i * 4 + 1, none⟩ = some (.int .i64 es[i].x1) := (hbel.cell (p := ⟨g, o + i * 4 + 1, none⟩) hg).trans (hc i hlt 1 (by decide))
      have m2 : wr.cell? ⟨g, o + i * 4 + 2, none⟩ = some (.string es[i].x2) := (hbel.cell (p := ⟨g, o + i * 4 + 2, none⟩) hg).trans (hc i hlt 2 (by decide))
      have m3 : wr.cell? ⟨g, o + i * 4 + 3, none⟩ = some (.string es[i].x3) := (hbel.cell (p := ⟨g, o + i * 4 + 3, none⟩) hg).trans (hc i hlt 3 (by decide))
      have HST := hid (pick_step hlt HP.out)
      have HHE := hid (pick_here hlt HP.out)
      have HLT := hid hlt
      clear hc hbel HP
      by_cases hsl : es[i].x0 = slot
      · have HM := hid (HHE.out hsl)
        have hsb : (es[i].x0 == slot) = true := by simpa using hsl
        have CX := hid (fun W h => CU.out es[i].x0 es[i].x1 es[i].x2 es[i].x3 W h)
        rw [hsb] at CX
        clear HST HHE hsl CU hsb
        generalize es[i].x0 = x0 at *
        generalize es[i].x1 = x1 at *
        generalize es[i].x2 = x2 at *
        generalize es[i].x3 = x3 at *
        go_wp2_with (go_at_call 93; refine (CX.out _ HB.out).mono ?_; rintro e w8 ⟨rfl, hb8⟩; refine Hid.out ?_)
        refine hid ?_
        have HB8 := hid (HB.out.trans (hb8.mono HB.out.size))
        clear hb8 m0 m1 m2 m3
        go_wp2
        go_ret
        exact ⟨_, rfl, Or.inr ⟨i, HLT.out, rfl, HM.out⟩, HB8.out⟩
      · have HP2 := hid (HST.out hsl)
        have hsb : (es[i].x0 == slot) = false := by simpa using hsl
        have CX := hid (fun W h => CU.out es[i].x0 es[i].x1 es[i].x2 es[i].x3 W h)
        rw [hsb] at CX
        clear HST HHE hsl CU hsb
        generalize es[i].x0 = x0 at *
        generalize es[i].x1 = x1 at *
        generalize es[i].x2 = x2 at *
        generalize es[i].x3 = x3 at *
        go_wp2_with (go_at_call 93; refine (CX.out _ HB.out).mono ?_; rintro e w8 ⟨rfl, hb8⟩; refine Hid.out ?_)
        refine hid ?_
        have HB8 := hid (HB.out.trans (hb8.mono HB.out.size))
        clear hb8 m0 m1 m2 m3
        go_wp2
        go_roundw
        case rel => exact ⟨i + 1, by omega, by go_num, HB8.out, HP2⟩
        case measure => simp [RowKit.intOf]; omega
    · have hie : i = es.length := by omega
      subst hie
      have HM := hid (pick_end HP.out)
      go_wp2
      go_ret
      exact ⟨_, rfl, Or.inl ⟨rfl, HM.out⟩, HB.out⟩

set_option maxRecDepth 20000 in
set_option maxHeartbeats 4000000 in
theorem uns_impl (es : List SealD) (hn : es.length ≤ 1048576) (st y0 y1 : Int) (y2 y3 : ByteArray) (ps : List (List UInt8)) (hpn : ps.length ≤ 1048576) (slot : Int) (a b : Value) (w : World) (ha : FRow encSeal 4 w a es) (hb : TextsAt w b ps) (hT : Tab w) (hG : 0 < w.heap.size) (hP : Lib.TabIs Tryd.prog w "internal/strconv.uint64pow10" .u64 Lib.pow10Tab) :
    Calls Tryd.prog 45 #[.agg #[a, .int .i64 st, .int .i64 y0, .int .i64 y1, .string y2, .string y3], b, .int .i64 slot] w fun e w' => e = .returned (.tuple #[.string (unsO es st ⟨y0, y1, y2, y3⟩ ps slot).1, .int .i64 (unsO es st ⟨y0, y1, y2, y3⟩ ps slot).2]) ∧ Below w.heap.size w w' := by
  have HFa := hid ha
  have HFb := hid hb
  have HTAB := hid hT
  have HPW := hid hP
  obtain ⟨p, c, rfl, _, hrest⟩ := ha
  obtain ⟨q, d, rfl, hrest2⟩ := hb
  have CV := hid (fun W ha hT hG => vault_impl es hn st y0 y1 y2 y3 (.slice p es.length c) W ha hT hG)
  have CR := hid (fun W hb hT hG => regs_impl ps q d W hb hpn hT hG)
  have CX := hid (fun (bb : Nat) W ha hbl hb => index_calls es hn slot bb (.slice p es.length c) W ha hbl hb)
  have CC := hid (fun mask W hb hT hG hP => comp_impl ps hpn mask q d W hb hT hG hP)
  unfold MadeOut at CC
  have HO : Hid (unsO es st ⟨y0, y1, y2, y3⟩ ps slot = if vaultB es st ⟨y0, y1, y2, y3⟩ = true ∧ st = 0 then (if regB ps = true then (match pickO es slot with | none => (⟨#[]⟩, 3) | some e => openO ps e) else (⟨#[]⟩, 2)) else (⟨#[]⟩, 1)) := hid rfl
  obtain ⟨r0, r1, r2, r3, r4, r5, r6, r7, hrv⟩ := reg_eight ps
  rw [hrv] at CR
  clear hrest hrest2 hT hP hrv
  generalize unsO es st ⟨y0, y1, y2, y3⟩ ps slot = ro at *
  generalize vaultB es st ⟨y0, y1, y2, y3⟩ = rv at *
  generalize regB ps = rr at *
  have HB0_0 : Hid (Below w.heap.size w w) := hid (Below.refl _ _)
  have hz0 : w.heap.size ≤ w.heap.size := Nat.le_refl _
  obtain ⟨w1, hw1⟩ : ∃ W, W = w.alloc (.cells #[.slice p es.length c, .int .i64 st, .int .i64 y0, .int .i64 y1, .string y2, .string y3] 70) := ⟨_, rfl⟩
  have hb1 : Below w.heap.size w w1 := by rw [hw1]; exact (Below.refl _ _).alloc (Nat.le_refl _) _
  have hz1 : w.heap.size < w1.heap.size := by rw [hw1]; simp
  have HVV_1 : Hid (w1.heap[w.heap.size]? = some (.cells #[.slice p es.length c, .int .i64 st, .int .i64 y0, .int .i64 y1, .string y2, .string y3] 70)) := hid (by rw [hw1]; exact heap_alloc_new _ _)
  have HW1 := hid hw1
  have HB0_1 := hid (HB0_0.out.trans (hb1.mono HB0_0.out.size))
  clear hw1 hb1
  obtain ⟨w2, hw2⟩ : ∃ W, W = w1.alloc (.cells #[.int .i64 slot] 2) := ⟨_, rfl⟩
  have hb2 : Below w1.heap.size w1 w2 := by rw [hw2]; exact (Below.refl _ _).alloc (Nat.le_refl _) _
  have hz2 : w1.heap.size < w2.heap.size := by rw [hw2]; simp
  have HVL_2 : Hid (w2.heap[w1.heap.size]? = some (.cells #[.int .i64 slot] 2)) := hid (by rw [hw2]; exact heap_alloc_new _ _)
  have HW2 := hid hw2
  have HB0_2 := hid (HB0_1.out.trans (hb2.mono HB0_1.out.size))
  have HVV_2 := hid ((hb2.block _ (by omega)).trans HVV_1.out)
  clear HB0_1
  clear hw2 hb2
  have hzL : w1.heap.size = w.heap.size + 1 := by rw [HW1.out]; simp
  have hzL2 : w.heap.size + 1 < w2.heap.size := by omega
  rw [hzL] at HVL_2
  have HZL := hid hzL
  clear hzL
  cases rv with
  | false =>
    have HZ : Hid (ro = (⟨#[]⟩, 1)) := hid (by rw [HO.out, if_neg (fun h => by cases h.1)])
    go_enter Tryd.func45, Tryd.ntmps45
    go_wp2_with (go_at_call 36; rw [← HW1.out]; rw [← HW2.out]; refine (CV.out _ (HFa.out.on HB0_2.out) (tab_on HTAB.out hG HB0_2.out) (Nat.lt_of_lt_of_le hG HB0_2.out.size)).mono ?_; rintro e w3 ⟨rfl, hb3⟩; refine Hid.out ?_)
    refine hid ?_
    clear HVV_1
    have hz3 := hb3.size
    have HB0_3 := hid (HB0_2.out.trans (hb3.mono HB0_2.out.size))
    have HVV_3 := hid ((hb3.block _ (by omega)).trans HVV_2.out)
    have HVL_3 := hid ((hb3.block _ (by omega)).trans HVL_2.out)
    clear HB0_2 HVV_2 HVL_2
    clear hb3
    go_wp2
    go_ret2
    exact ⟨by rw [HZ.out] <;> rfl, HB0_3.out⟩
  | true =>
    by_cases h0 : st = 0
    · subst h0
      rw [if_pos ⟨rfl, rfl⟩] at HO
      cases rr with
      | false =>
        have HZ : Hid (ro = (⟨#[]⟩, 2)) := hid (by rw [HO.out, if_neg (by decide)])
        go_enter Tryd.func45, Tryd.ntmps45
        go_wp2_with (go_at_call 36; rw [← HW1.out]; rw [← HW2.out]; refine (CV.out _ (HFa.out.on HB0_2.out) (tab_on HTAB.out hG HB0_2.out) (Nat.lt_of_lt_of_le hG HB0_2.out.size)).mono ?_; rintro e w3 ⟨rfl, hb3⟩; refine Hid.out ?_)
        refine hid ?_
        clear HVV_1
        have hz3 := hb3.size
        have HB0_3 := hid (HB0_2.out.trans (hb3.mono HB0_2.out.size))
        have HVV_3 := hid ((hb3.block _ (by omega)).trans HVV_2.out)
        have HVL_3 := hid ((hb3.block _ (by omega)).trans HVL_2.out)
        clear HB0_2 HVV_2 HVL_2
        clear hb3
        have k_V_0 := (cell_of_row _ _ 0 _ _ _ HVV_3.out).trans rfl
        have k_V_1 := (cell_of_row _ _ 1 _ _ _ HVV_3.out).trans rfl
        have k_V_2 := (cell_of_row _ _ 2 _ _ _ HVV_3.out).trans rfl
        have k_V_3 := (cell_of_row _ _ 3 _ _ _ HVV_3.out).trans rfl
        have k_V_4 := (cell_of_row _ _ 4 _ _ _ HVV_3.out).trans rfl
        have k_V_5 := (cell_of_row _ _ 5 _ _ _ HVV_3.out).trans rfl
        go_wp2_with (go_at_call 91; refine (CR.out _ (HFb.out.on HB0_3.out) (tab_on HTAB.out hG HB0_3.out) (Nat.lt_of_lt_of_le hG HB0_3.out.size)).mono ?_; rintro e w4 ⟨rfl, hb4⟩; refine Hid.out ?_)
        refine hid ?_
        clear k_V_0 k_V_1 k_V_2 k_V_3 k_V_4 k_V_5
        have hz4 := hb4.size
        have HB0_4 := hid (HB0_3.out.trans (hb4.mono HB0_3.out.size))
        have HVV_4 := hid ((hb4.block _ (by omega)).trans HVV_3.out)
        have HVL_4 := hid ((hb4.block _ (by omega)).trans HVL_3.out)
        clear HB0_3 HVV_3 HVL_3
        clear hb4
        obtain ⟨w5, hw5⟩ : ∃ W, W = w4.alloc (.cells #[.string r0, .string r1, .string r2, .string r3, .string r4, .string r5, .string r6, .string r7] 141) := ⟨_, rfl⟩
        have hb5 : Below w4.heap.size w4 w5 := by rw [hw5]; exact (Below.refl _ _).alloc (Nat.le_refl _) _
        have hz5 : w4.heap.size < w5.heap.size := by rw [hw5]; simp
        have HVR_5 : Hid (w5.heap[w4.heap.size]? = some (.cells #[.string r0, .string r1, .string r2, .string r3, .string r4, .string r5, .string r6, .string r7] 141)) := hid (by rw [hw5]; exact heap_alloc_new _ _)
        have HW5 := hid hw5
        have HB0_5 := hid (HB0_4.out.trans (hb5.mono HB0_4.out.size))
        have HVV_5 := hid ((hb5.block _ (by omega)).trans HVV_4.out)
        have HVL_5 := hid ((hb5.block _ (by omega)).trans HVL_4.out)
        clear HB0_4
        clear hw5 hb5
        have HBZ := hid HB0_5.out
        rw [HW5.out] at HBZ
        go_wp2
        go_ret2
        exact ⟨by rw [HZ.out] <;> rfl, HBZ.out⟩
      | true =>
        rw [if_pos rfl] at HO
        go_enter Tryd.func45, Tryd.ntmps45
        go_wp2_with (go_at_call 36; rw [← HW1.out]; rw [← HW2.out]; refine (CV.out _ (HFa.out.on HB0_2.out) (tab_on HTAB.out hG HB0_2.out) (Nat.lt_of_lt_of_le hG HB0_2.out.size)).mono ?_; rintro e w3 ⟨rfl, hb3⟩; refine Hid.out ?_)
        refine hid ?_
        clear HVV_1
        have hz3 := hb3.size
        have HB0_3 := hid (HB0_2.out.trans (hb3.mono HB0_2.out.size))
        have HVV_3 := hid ((hb3.block _ (by omega)).trans HVV_2.out)
        have HVL_3 := hid ((hb3.block _ (by omega)).trans HVL_2.out)
        clear HB0_2 HVV_2 HVL_2
        clear hb3
        have k_V_0 := (cell_of_row _ _ 0 _ _ _ HVV_3.out).trans rfl
        have k_V_1 := (cell_of_row _ _ 1 _ _ _ HVV_3.out).trans rfl
        have k_V_2 := (cell_of_row _ _ 2 _ _ _ HVV_3.out).trans rfl
        have k_V_3 := (cell_of_row _ _ 3 _ _ _ HVV_3.out).trans rfl
        have k_V_4 := (cell_of_row _ _ 4 _ _ _ HVV_3.out).trans rfl
        have k_V_5 := (cell_of_row _ _ 5 _ _ _ HVV_3.out).trans rfl
        go_wp2_with (go_at_call 91; refine (CR.out _ (HFb.out.on HB0_3.out) (tab_on HTAB.out hG HB0_3.out) (Nat.lt_of_lt_of_le hG HB0_3.out.size)).mono ?_; rintro e w4 ⟨rfl, hb4⟩; refine Hid.out ?_)
        refine hid ?_
        clear k_V_0 k_V_1 k_V_2 k_V_3 k_V_4 k_V_5
        have hz4 := hb4.size
        have HB0_4 := hid (HB0_3.out.trans (hb4.mono HB0_3.out.size))
        have HVV_4 := hid ((hb4.block _ (by omega)).trans HVV_3.out)
        have HVL_4 := hid ((hb4.block _ (by omega)).trans HVL_3.out)
        clear HB0_3 HVV_3 HVL_3
        clear hb4
        obtain ⟨w5, hw5⟩ : ∃ W, W = w4.alloc (.cells #[.string r0, .string r1, .string r2, .string r3, .string r4, .string r5, .string r6, .string r7] 141) := ⟨_, rfl⟩
        have hb5 : Below w4.heap.size w4 w5 := by rw [hw5]; exact (Below.refl _ _).alloc (Nat.le_refl _) _
        have hz5 : w4.heap.size < w5.heap.size := by rw [hw5]; simp
        have HVR_5 : Hid (w5.heap[w4.heap.size]? = some (.cells #[.string r0, .string r1, .string r2, .string r3, .string r4, .string r5, .string r6, .string r7] 141)) := hid (by rw [hw5]; exact heap_alloc_new _ _)
        have HW5 := hid hw5
        have HB0_5 := hid (HB0_4.out.trans (hb5.mono HB0_4.out.size))
        have HVV_5 := hid ((hb5.block _ (by omega)).trans HVV_4.out)
        have HVL_5 := hid ((hb5.block _ (by omega)).trans HVL_4.out)
        clear HB0_4
        clear hw5 hb5
        have kz_V : w.heap.size < w4.heap.size := by omega
        have k_V_0 := (cell_of_row _ _ 0 _ _ _ HVV_4.out).trans rfl
        have k_V_1 := (cell_of_row _ _ 1 _ _ _ HVV_4.out).trans rfl
        have k_V_2 := (cell_of_row _ _ 2 _ _ _ HVV_4.out).trans rfl
        have k_V_3 := (cell_of_row _ _ 3 _ _ _ HVV_4.out).trans rfl
        have k_V_4 := (cell_of_row _ _ 4 _ _ _ HVV_4.out).trans rfl
        have k_V_5 := (cell_of_row _ _ 5 _ _ _ HVV_4.out).trans rfl
        have hvl : w5.cell? ⟨w.heap.size + 1, 0, none⟩ = some (.int .i64 slot) := (cell_of_row _ _ 0 _ _ _ HVL_5.out).trans rfl
        have hvs : w.heap.size + 1 < w5.heap.size := by omega
        have hmf : ∀ (fn : Fn) (first cap : Array Value) (w : World), (Instr.makeFunc fn first cap).run Tryd.prog w = .ok (.func fn first cap) w := fun _ _ _ _ => rfl
        have CX2 := hid (CX.out (w.heap.size + 1) w5 (HFa.out.on HB0_5.out) hvs hvl)
        clear hvl CX
        go_wp2_with (go_at_call 92; rw [← HW5.out]; refine (CX2.out).mono ?_; rintro e w6 ⟨z, rfl, hpost, hb6⟩; refine Hid.out ?_)
        refine hid ?_
        clear kz_V k_V_0 k_V_1 k_V_2 k_V_3 k_V_4 k_V_5
        clear HVV_4 HVL_4
        have hz6 := hb6.size
        have HB0_6 := hid (HB0_5.out.trans (hb6.mono HB0_5.out.size))
        have HVV_6 := hid ((hb6.block _ (by omega)).trans HVV_5.out)
        have HVL_6 := hid ((hb6.block _ (by omega)).trans HVL_5.out)
        have HVR_6 := hid ((hb6.block _ (by omega)).trans HVR_5.out)
        clear HB0_5 HVV_5 HVL_5 HVR_5
        have HPOST := hid hpost
        clear hpost
        clear hb6
        rcases HPOST.out with ⟨rfl, hpk⟩ | ⟨k, hk, rfl, hpk⟩
        · have HZ : Hid (ro = (⟨#[]⟩, 3)) := hid (by rw [HO.out, hpk])
          clear hpk HPOST
          go_wp2
          go_ret2
          exact ⟨by rw [HZ.out] <;> rfl, HB0_6.out⟩
        · have HOK := hid hpk
          rw [HOK.out] at HO
          dsimp only at HO
          clear hpk HPOST
          have hne : es ≠ [] := fun h => by rw [h] at hk; cases hk
          obtain ⟨p', c', hv, _, hp⟩ := HFa.out
          obtain ⟨rfl, rfl⟩ : p = p' ∧ c = c' := by injection hv with h1 h2 h3; exact ⟨h1, by omega⟩
          obtain ⟨g, o, rfl, hg, hc⟩ := hp hne
          clear hv hp
          have b1 : (0 : Int) ≤ (k : Int) := by omega
          have b2 : (k : Int) < (es.length : Int) := by omega
          have HC := hid hc
          clear hc
          have HOP : Hid (openO ps es[k] = if (compOut ps es[k].x1).1 = true ∧ bytesOf (compOut ps es[k].x1).2 = es[k].x2 then (es[k].x3, 0) else (⟨#[]⟩, 4)) := hid rfl
          have CY := hid (fun W hb hT hG hP => CC.out es[k].x1 W hb hT hG hP)
          have HWT := hid (want_test (compOut ps es[k].x1).2 es[k].x2)
          have HM1 := hid (fun (W : World) (hW : Below w.heap.size w W) => (hW.cell (p := ⟨g, o + k * 4 + 1, none⟩) hg).trans (HC.out k hk 1 (by decide)))
          have HM2 := hid (fun (W : World) (hW : Below w.heap.size w W) => (hW.cell (p := ⟨g, o + k * 4 + 2, none⟩) hg).trans (HC.out k hk 2 (by decide)))
          have HM3 := hid (fun (W : World) (hW : Below w.heap.size w W) => (hW.cell (p := ⟨g, o + k * 4 + 3, none⟩) hg).trans (HC.out k hk 3 (by decide)))
          have e1 : (encSeal es[k])[1]? = some (.int .i64 es[k].x1) := rfl
          have e2 : (encSeal es[k])[2]? = some (.string es[k].x2) := rfl
          have e3 : (encSeal es[k])[3]? = some (.string es[k].x3) := rfl
          rw [e1] at HM1
          rw [e2] at HM2
          rw [e3] at HM3
          clear e1 e2 e3 HOK CC
          rw [HOP.out] at HO
          clear HOP HC
          generalize (compOut ps es[k].x1).1 = ok at *
          generalize bytesOf (compOut ps es[k].x1).2 = t at *
          generalize es[k].x1 = x1 at *
          generalize es[k].x2 = x2 at *
          generalize es[k].x3 = x3 at *
          obtain ⟨y, hy⟩ : ∃ y : ByteArray, (if ok = true then t else ⟨#[]⟩) = y := ⟨_, rfl⟩
          rw [hy] at CY
          have HYY := hid hy
          clear hy
          have m1 := HM1.out _ HB0_6.out
          have k_V_0 := (cell_of_row _ _ 0 _ _ _ HVV_6.out).trans rfl
          have k_V_1 := (cell_of_row _ _ 1 _ _ _ HVV_6.out).trans rfl
          have k_V_2 := (cell_of_row _ _ 2 _ _ _ HVV_6.out).trans rfl
          have k_V_3 := (cell_of_row _ _ 3 _ _ _ HVV_6.out).trans rfl
          have k_V_4 := (cell_of_row _ _ 4 _ _ _ HVV_6.out).trans rfl
          have k_V_5 := (cell_of_row _ _ 5 _ _ _ HVV_6.out).trans rfl
          go_wp2_with (go_at_call 15; refine (CY.out _ (HFb.out.on HB0_6.out) (tab_on HTAB.out hG HB0_6.out) (Nat.lt_of_lt_of_le hG HB0_6.out.size) (Num.tab_stays HB0_6.out HPW.out)).mono ?_; rintro e w7 ⟨rfl, hb7⟩; refine Hid.out ?_)
          refine hid ?_
          clear k_V_0 k_V_1 k_V_2 k_V_3 k_V_4 k_V_5 m1
          have hz7 := hb7.size
          have HB0_7 := hid (HB0_6.out.trans (hb7.mono HB0_6.out.size))
          have HVV_7 := hid ((hb7.block _ (by omega)).trans HVV_6.out)
          have HVL_7 := hid ((hb7.block _ (by omega)).trans HVL_6.out)
          have HVR_7 := hid ((hb7.block _ (by omega)).trans HVR_6.out)
          clear HB0_6 HVV_6 HVL_6 HVR_6
          clear hb7
          have k_V_0 := (cell_of_row _ _ 0 _ _ _ HVV_7.out).trans rfl
          have k_V_1 := (cell_of_row _ _ 1 _ _ _ HVV_7.out).trans rfl
          have k_V_2 := (cell_of_row _ _ 2 _ _ _ HVV_7.out).trans rfl
          have k_V_3 := (cell_of_row _ _ 3 _ _ _ HVV_7.out).trans rfl
          have k_V_4 := (cell_of_row _ _ 4 _ _ _ HVV_7.out).trans rfl
          have k_V_5 := (cell_of_row _ _ 5 _ _ _ HVV_7.out).trans rfl
          have m2 := HM2.out _ HB0_7.out
          have m3 := HM3.out _ HB0_7.out
          cases ok with
          | false =>
            have HZ : Hid (ro = (⟨#[]⟩, 4)) := hid (by rw [HO.out, if_neg (fun h => by cases h.1)])
            go_wp2
            go_ret2
            exact ⟨by rw [HZ.out] <;> rfl, HB0_7.out⟩
          | true =>
            obtain rfl : t = y := by have h := HYY.out; rwa [if_pos rfl] at h
            by_cases ht : t = x2
            · have HZ : Hid (ro = (x3, 0)) := hid (by rw [HO.out, if_pos ⟨rfl, ht⟩])
              have hte := HWT.out
              rw [decide_eq_true ht] at hte
              clear ht HWT
              go_wp2
              go_ret2
              exact ⟨by rw [HZ.out] <;> rfl, HB0_7.out⟩
            · have HZ : Hid (ro = (⟨#[]⟩, 4)) := hid (by rw [HO.out, if_neg (fun h => ht h.2)])
              have hte := HWT.out
              rw [decide_eq_false ht] at hte
              clear ht HWT
              go_wp2
              go_ret2
              exact ⟨by rw [HZ.out] <;> rfl, HB0_7.out⟩
    · have HZ : Hid (ro = (⟨#[]⟩, 1)) := hid (by rw [HO.out, if_neg (fun h => h0 h.2)])
      have e0 : (st != 0) = true := by simp; exact h0
      go_enter Tryd.func45, Tryd.ntmps45
      go_wp2_with (go_at_call 36; rw [← HW1.out]; rw [← HW2.out]; refine (CV.out _ (HFa.out.on HB0_2.out) (tab_on HTAB.out hG HB0_2.out) (Nat.lt_of_lt_of_le hG HB0_2.out.size)).mono ?_; rintro e w3 ⟨rfl, hb3⟩; refine Hid.out ?_)
      refine hid ?_
      clear HVV_1
      have hz3 := hb3.size
      have HB0_3 := hid (HB0_2.out.trans (hb3.mono HB0_2.out.size))
      have HVV_3 := hid ((hb3.block _ (by omega)).trans HVV_2.out)
      have HVL_3 := hid ((hb3.block _ (by omega)).trans HVL_2.out)
      clear HB0_2 HVV_2 HVL_2
      clear hb3
      have k_V_0 := (cell_of_row _ _ 0 _ _ _ HVV_3.out).trans rfl
      have k_V_1 := (cell_of_row _ _ 1 _ _ _ HVV_3.out).trans rfl
      have k_V_2 := (cell_of_row _ _ 2 _ _ _ HVV_3.out).trans rfl
      have k_V_3 := (cell_of_row _ _ 3 _ _ _ HVV_3.out).trans rfl
      have k_V_4 := (cell_of_row _ _ 4 _ _ _ HVV_3.out).trans rfl
      have k_V_5 := (cell_of_row _ _ 5 _ _ _ HVV_3.out).trans rfl
      go_wp2
      go_ret2
      exact ⟨by rw [HZ.out] <;> rfl, HB0_3.out⟩
end Go.Proofs.YtponjghppnpnhaaDoor
