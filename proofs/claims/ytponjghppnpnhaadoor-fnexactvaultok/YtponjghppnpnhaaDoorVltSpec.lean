/- VaultOk, the specification's. -/
import Derived.Test.YtponjghppnpnhaaDoorAwayBoth
import Derived.Deep.QuietTactic
import Derived.BigQuiet
import Derived.RegionTactic
import Derived.Deep.RegionHeld3
namespace Go.Proofs.YtponjghppnpnhaaDoor
open Go.RowKit
open Go.Lib (hid)

theorem take_dst {P : Program} {md : Region.Mode} {ops : Array Oper} {Q : Exit → Act → World → Prop} {S : World → Prop} {i : Nat} {oi : Oper} (d : Tmp) {v : Value} {fuel : Nat} {listed : Array Bool} {a : Act} {w : World} (hi : ops[i]? = some oi) (hd : oi.dst = some d)
    (hs : Region.noSelect ops = true) (hf : Region.free md ops listed i = true) (hr : (Region.ready md ops listed).contains i = true)
    (hQ : ∀ c a w, Q (.panic c) (a.put (some d) v) w → Q (.panic c) a w) (hy : YieldsIf P ops S oi v a) (hS : S w)
    (h : wpAnyH P md ops Q S fuel (listed.setIfInBounds i true) (a.put (some d) v) w) : wpAnyH P md ops Q S (fuel + 1) listed a w := by
  rw [← hd] at hQ h
  exact wpAnyH_take hi hs hf hr hQ hy hS h

set_option maxRecDepth 20000 in
set_option maxHeartbeats 4000000 in
theorem vault_spec (es : List SealD) (hn : es.length ≤ 1048576) (hs : ∀ e ∈ es, e.x2.size ≤ 1048576 ∧ e.x3.size ≤ 1048576) (st y0 y1 : Int) (y2 y3 : ByteArray) (hy2 : y2.size ≤ 1048576) (hy3 : y3.size ≤ 1048576) (a : Value) (w : World) (ha : FRow encSeal 4 w a es) :
    Calls Tryd.prog 34 #[.agg #[a, .int .i64 st, .int .i64 y0, .int .i64 y1, .string y2, .string y3]] w fun e w' => e = .returned (.bool (vaultB es st ⟨y0, y1, y2, y3⟩)) ∧ Below w.heap.size w w' := by
  have HA := hid ha
  have HS := hid hs
  have CP := hid (fun W => seal_spec y0 y1 y2 y3 hy2 hy3 W)
  have CW := hid (fun W => away_spec y0 y1 y2 y3 W)
  have HE := fun W => seal_eql y0 0 y1 y2 y3 W
  have HQ : Hid (quietB ⟨y0, y1, y2, y3⟩ = (decide (y0 = 0) && bareB ⟨y0, y1, y2, y3⟩)) := hid rfl
  obtain ⟨p, c, rfl, _, hrest⟩ := ha
  clear hrest hs hy2 hy3
  obtain ⟨W0, hW0⟩ : ∃ W0, W0 = w.alloc (.cells #[.slice p es.length c, .int .i64 st, .int .i64 y0, .int .i64 y1, .string y2, .string y3] 70) := ⟨_, rfl⟩
  have HB0 : Hid (Below w.heap.size w W0) := hid (by rw [hW0]; exact (Below.refl _ _).alloc (Nat.le_refl _) _)
  have HV0 : Hid (W0.heap[w.heap.size]? = some (.cells #[.slice p es.length c, .int .i64 st, .int .i64 y0, .int .i64 y1, .string y2, .string y3] 70)) := hid (by rw [hW0]; exact heap_alloc_new _ _)
  have HPB : Hid (vaultB es st ⟨y0, y1, y2, y3⟩ = (sealsB es es.length && pendB st ⟨y0, y1, y2, y3⟩)) := hid rfl
  have HPD : Hid (pendB st ⟨y0, y1, y2, y3⟩ = if st = 0 then quietB ⟨y0, y1, y2, y3⟩ else if st = 1 ∨ st = 2 then (sealB ⟨y0, y1, y2, y3⟩ || awayB ⟨y0, y1, y2, y3⟩) else false) := hid rfl
  generalize vaultB es st ⟨y0, y1, y2, y3⟩ = r at *
  generalize pendB st ⟨y0, y1, y2, y3⟩ = rp at *
  generalize quietB ⟨y0, y1, y2, y3⟩ = rq at *
  generalize sealB ⟨y0, y1, y2, y3⟩ = rs at *
  generalize awayB ⟨y0, y1, y2, y3⟩ = ra at *
  generalize (decide (y0 = 0) && bareB ⟨y0, y1, y2, y3⟩) = rb at *
  go_enter Tryd.func34, Tryd.ntmps34
  go_wp2_with (fail)
  rw [← hW0]
  clear hW0
  go_wp2
  go_loopw [3] (fun iv wr => ∃ i : Nat, i ≤ es.length ∧ iv = .int .i64 i ∧ Below w.heap.size w wr ∧ wr.heap[w.heap.size]? = some (.cells #[.slice p es.length c, .int .i64 st, .int .i64 y0, .int .i64 y1, .string y2, .string y3] 70) ∧ sealsB es i = true) (fun iv _ => es.length - (RowKit.intOf iv).toNat)
  case atStart => exact ⟨0, Nat.zero_le _, rfl, HB0.out, HV0.out, rfl⟩
  case round =>
    obtain ⟨i, hi, rfl, hbel, hbox, hall⟩ := hrel
    have HB := hid hbel
    have HX := hid hbox
    have HALL := hid hall
    obtain ⟨k0, k1, k2, k3, k4, k5⟩ := six_cells hbox
    have hzr : w.heap.size < wr.heap.size := (Array.getElem?_eq_some_iff.1 hbox).1
    by_cases hlt : i < es.length
    · have hne : es ≠ [] := fun h => by rw [h] at hlt; cases hlt
      obtain ⟨p', c', hv, _, hp⟩ := HA.out
      obtain ⟨rfl, rfl⟩ : p = p' ∧ c = c' := by injection hv with h1 h2 h3; exact ⟨h1, by omega⟩
      obtain ⟨g, o, rfl, hg, hc⟩ := hp hne
      clear hv hp
      have HC := hid hc
      have b1 : (0 : Int) ≤ (i : Int) := by omega
      have b2 : (i : Int) < (es.length : Int) := by omega
      have hgw : g < wr.heap.size := Nat.lt_of_lt_of_le hg hbel.size
      have m0 : wr.cell? ⟨g, o + i * 4, none⟩ = some (.int .i64 es[i].x0) := (hbel.cell (p := ⟨g, o + i * 4, none⟩) hg).trans (hc i hlt 0 (by decide))
      have m1 : wr.cell? ⟨g, o + i * 4 + 1, none⟩ = some (.int .i64 es[i].x1) := (hbel.cell (p := ⟨g, o + i * 4 + 1, none⟩) hg).trans (hc i hlt 1 (by decide))
      have m2 : wr.cell? ⟨g, o + i * 4 + 2, none⟩ = some (.string es[i].x2) := (hbel.cell (p := ⟨g, o + i * 4 + 2, none⟩) hg).trans (hc i hlt 2 (by decide))
      have m3 : wr.cell? ⟨g, o + i * 4 + 3, none⟩ = some (.string es[i].x3) := (hbel.cell (p := ⟨g, o + i * 4 + 3, none⟩) hg).trans (hc i hlt 3 (by decide))
      have HGD : Hid (sealGood es i = (sealB es[i] && decide (0 < i → (es.getD (i - 1) zSeal).x0 < es[i].x0))) := hid (by unfold sealGood; rw [seal_at hlt])
      have hei2 := HS.out es[i] (List.getElem_mem hlt)
      have HPREV := hid (fun (j : Nat) (hj : j < es.length) => (hbel.cell (p := ⟨g, o + j * 4, none⟩) hg).trans (hc j hj 0 (by decide)))
      clear hc hbel hbox hall HE
      generalize es[i] = ei at *
      obtain ⟨x0, x1, x2, x3⟩ := ei
      dsimp only at *
      have CR := hid (fun W => seal_spec x0 x1 x2 x3 hei2.1 hei2.2 W)
      clear hei2
      cases hrf : sealB ⟨x0, x1, x2, x3⟩ with
      | false =>
        have HGB : Hid (sealGood es i = false) := hid (by rw [HGD.out, hrf]; rfl)
        rw [hrf] at CR
        clear hrf HGD HPREV
        have j0 : ∀ W : World, Below wr.heap.size wr W → W.cell? ⟨w.heap.size, 0, none⟩ = some (.slice (some ⟨g, o, none⟩) es.length c) := fun W hW => (hW.cell (p := ⟨w.heap.size, 0, none⟩) hzr).trans k0
        have l0 : ∀ W : World, Below wr.heap.size wr W → W.cell? ⟨g, o + i * 4, none⟩ = some (.int .i64 x0) := fun W hW => (hW.cell (p := ⟨g, o + i * 4, none⟩) hgw).trans m0
        have l1 : ∀ W : World, Below wr.heap.size wr W → W.cell? ⟨g, o + i * 4 + 1, none⟩ = some (.int .i64 x1) := fun W hW => (hW.cell (p := ⟨g, o + i * 4 + 1, none⟩) hgw).trans m1
        have l2 : ∀ W : World, Below wr.heap.size wr W → W.cell? ⟨g, o + i * 4 + 2, none⟩ = some (.string x2) := fun W hW => (hW.cell (p := ⟨g, o + i * 4 + 2, none⟩) hgw).trans m2
        have l3 : ∀ W : World, Below wr.heap.size wr W → W.cell? ⟨g, o + i * 4 + 3, none⟩ = some (.string x3) := fun W hW => (hW.cell (p := ⟨g, o + i * 4 + 3, none⟩) hgw).trans m3
        clear k1 k2 k3 k4 k5 m0 m1 m2 m3
        go_wp2
        refine wp_region_held_drew (S := fun w' => Below wr.heap.size wr w') (by kernel_rfl) (Below.drew (Below.refl _ _)) (fun hHeld => ?_)
        refine take_dst (i := 0) 11 (v := ?_) rfl rfl (by kernel_rfl) (by kernel_rfl) (by kernel_rfl) (fun _ _ _ h => h) (Or.inl ⟨by rfl, ?_⟩) (by assumption) ?_
        case refine_2 => ((intro w hSw); (try dsimp only at hSw); go_simp; (try with_reducible rfl))
        try simp only [Act.put, List.setIfInBounds_toArray, List.set_cons_zero, List.set_cons_succ]
        refine take_dst (i := 1) 12 (v := ?_) rfl rfl (by kernel_rfl) (by kernel_rfl) (by kernel_rfl) (fun _ _ _ h => h) (Or.inl ⟨by rfl, ?_⟩) (by assumption) ?_
        case refine_2 => ((intro w hSw); (try dsimp only at hSw); go_simp; (try with_reducible rfl))
        try simp only [Act.put, List.setIfInBounds_toArray, List.set_cons_zero, List.set_cons_succ]
        refine take_dst (i := 2) 13 (v := ?_) rfl rfl (by kernel_rfl) (by kernel_rfl) (by kernel_rfl) (fun _ _ _ h => h) (Or.inl ⟨by rfl, ?_⟩) (by assumption) ?_
        case refine_2 => ((intro w hSw); (try dsimp only at hSw); go_simp; (try with_reducible rfl))
        try simp only [Act.put, List.setIfInBounds_toArray, List.set_cons_zero, List.set_cons_succ]
        refine take_dst (i := 3) 14 (v := ?_) rfl rfl (by kernel_rfl) (by kernel_rfl) (by kernel_rfl) (fun _ _ _ h => h) (Or.inl ⟨by rfl, ?_⟩) (by assumption) ?_
        case refine_2 => ((intro w hSw); (try dsimp only at hSw); go_simp; (try with_reducible rfl))
        try simp only [Act.put, List.setIfInBounds_toArray, List.set_cons_zero, List.set_cons_succ]
        refine take_dst (i := 4) 15 (v := ?_) rfl rfl (by kernel_rfl) (by kernel_rfl) (by kernel_rfl) (fun _ _ _ h => h) (Or.inl ⟨by rfl, ?_⟩) (by assumption) ?_
        case refine_2 => ((intro w hSw); (try dsimp only at hSw); go_simp; (try with_reducible rfl))
        try simp only [Act.put, List.setIfInBounds_toArray, List.set_cons_zero, List.set_cons_succ]
        refine wpAnyH_ready (rs := [5]) (by kernel_rfl) (by simp) ?_
        refine AllReadyH.cons rfl (fun K hK => ?_) AllReadyH.nil
        go_simp
        go_at_call 77
        refine (CR.out _).mono ?_
        rintro e x1 ⟨rfl, hy1⟩
        go_wp2_with fail
        refine hK.out _ _ (below_hop hHeld (by simp) hy1) (fun hHeld => ?_)
        clear hK K
        try simp only [Act.put, List.setIfInBounds_toArray, List.set_cons_zero, List.set_cons_succ]
        refine take_dst (i := 6) 17 (v := ?_) rfl rfl (by kernel_rfl) (by kernel_rfl) (by kernel_rfl) (fun _ _ _ h => h) (Or.inl ⟨by rfl, ?_⟩) (by assumption) ?_
        case refine_2 => ((intro w hSw); (try dsimp only at hSw); go_simp; (try with_reducible rfl))
        try simp only [Act.put, List.setIfInBounds_toArray, List.set_cons_zero, List.set_cons_succ]
        refine take_dst (i := 7) 18 (v := ?_) rfl rfl (by kernel_rfl) (by kernel_rfl) (by kernel_rfl) (fun _ _ _ h => h) (Or.inl ⟨by rfl, ?_⟩) (by assumption) ?_
        case refine_2 => ((intro w hSw); (try dsimp only at hSw); go_simp; (try with_reducible rfl))
        try simp only [Act.put, List.setIfInBounds_toArray, List.set_cons_zero, List.set_cons_succ]
        refine take_dst (i := 8) 19 (v := undef) rfl rfl (by kernel_rfl) (by kernel_rfl) (by kernel_rfl) (fun _ _ _ h => h) (Or.inr ⟨by rfl, rfl⟩) (by assumption) ?_
        try simp only [Act.put, List.setIfInBounds_toArray, List.set_cons_zero, List.set_cons_succ]
        refine take_dst (i := 9) 20 (v := undef) rfl rfl (by kernel_rfl) (by kernel_rfl) (by kernel_rfl) (fun _ _ _ h => h) (Or.inr ⟨by rfl, rfl⟩) (by assumption) ?_
        try simp only [Act.put, List.setIfInBounds_toArray, List.set_cons_zero, List.set_cons_succ]
        refine take_dst (i := 10) 21 (v := undef) rfl rfl (by kernel_rfl) (by kernel_rfl) (by kernel_rfl) (fun _ _ _ h => h) (Or.inr ⟨by rfl, rfl⟩) (by assumption) ?_
        try simp only [Act.put, List.setIfInBounds_toArray, List.set_cons_zero, List.set_cons_succ]
        refine take_dst (i := 11) 22 (v := undef) rfl rfl (by kernel_rfl) (by kernel_rfl) (by kernel_rfl) (fun _ _ _ h => h) (Or.inr ⟨by rfl, rfl⟩) (by assumption) ?_
        try simp only [Act.put, List.setIfInBounds_toArray, List.set_cons_zero, List.set_cons_succ]
        refine take_dst (i := 12) 23 (v := undef) rfl rfl (by kernel_rfl) (by kernel_rfl) (by kernel_rfl) (fun _ _ _ h => h) (Or.inr ⟨by rfl, rfl⟩) (by assumption) ?_
        try simp only [Act.put, List.setIfInBounds_toArray, List.set_cons_zero, List.set_cons_succ]
        refine take_dst (i := 13) 24 (v := undef) rfl rfl (by kernel_rfl) (by kernel_rfl) (by kernel_rfl) (fun _ _ _ h => h) (Or.inr ⟨by rfl, rfl⟩) (by assumption) ?_
        try simp only [Act.put, List.setIfInBounds_toArray, List.set_cons_zero, List.set_cons_succ]
        refine take_dst (i := 14) 25 (v := undef) rfl rfl (by kernel_rfl) (by kernel_rfl) (by kernel_rfl) (fun _ _ _ h => h) (Or.inr ⟨by rfl, rfl⟩) (by assumption) ?_
        try simp only [Act.put, List.setIfInBounds_toArray, List.set_cons_zero, List.set_cons_succ]
        refine take_dst (i := 15) 26 (v := undef) rfl rfl (by kernel_rfl) (by kernel_rfl) (by kernel_rfl) (fun _ _ _ h => h) (Or.inr ⟨by rfl, rfl⟩) (by assumption) ?_
        try simp only [Act.put, List.setIfInBounds_toArray, List.set_cons_zero, List.set_cons_succ]
        refine take_dst (i := 16) 27 (v := undef) rfl rfl (by kernel_rfl) (by kernel_rfl) (by kernel_rfl) (fun _ _ _ h => h) (Or.inr ⟨by rfl, rfl⟩) (by assumption) ?_
        try simp only [Act.put, List.setIfInBounds_toArray, List.set_cons_zero, List.set_cons_succ]
        refine take_dst (i := 17) 28 (v := undef) rfl rfl (by kernel_rfl) (by kernel_rfl) (by kernel_rfl) (fun _ _ _ h => h) (Or.inr ⟨by rfl, rfl⟩) (by assumption) ?_
        try simp only [Act.put, List.setIfInBounds_toArray, List.set_cons_zero, List.set_cons_succ]
        refine take_dst (i := 18) 29 (v := undef) rfl rfl (by kernel_rfl) (by kernel_rfl) (by kernel_rfl) (fun _ _ _ h => h) (Or.inr ⟨by rfl, rfl⟩) (by assumption) ?_
        try simp only [Act.put, List.setIfInBounds_toArray, List.set_cons_zero, List.set_cons_succ]
        refine take_dst (i := 19) 30 (v := undef) rfl rfl (by kernel_rfl) (by kernel_rfl) (by kernel_rfl) (fun _ _ _ h => h) (Or.inr ⟨by rfl, rfl⟩) (by assumption) ?_
        try simp only [Act.put, List.setIfInBounds_toArray, List.set_cons_zero, List.set_cons_succ]
        refine take_dst (i := 20) 31 (v := undef) rfl rfl (by kernel_rfl) (by kernel_rfl) (by kernel_rfl) (fun _ _ _ h => h) (Or.inr ⟨by rfl, rfl⟩) (by assumption) ?_
        try simp only [Act.put, List.setIfInBounds_toArray, List.set_cons_zero, List.set_cons_succ]
        refine take_dst (i := 21) 32 (v := undef) rfl rfl (by kernel_rfl) (by kernel_rfl) (by kernel_rfl) (fun _ _ _ h => h) (Or.inr ⟨by rfl, rfl⟩) (by assumption) ?_
        try simp only [Act.put, List.setIfInBounds_toArray, List.set_cons_zero, List.set_cons_succ]
        refine take_dst (i := 22) 33 (v := undef) rfl rfl (by kernel_rfl) (by kernel_rfl) (by kernel_rfl) (fun _ _ _ h => h) (Or.inr ⟨by rfl, rfl⟩) (by assumption) ?_
        try simp only [Act.put, List.setIfInBounds_toArray, List.set_cons_zero, List.set_cons_succ]
        refine take_dst (i := 23) 34 (v := undef) rfl rfl (by kernel_rfl) (by kernel_rfl) (by kernel_rfl) (fun _ _ _ h => h) (Or.inr ⟨by rfl, rfl⟩) (by assumption) ?_
        try simp only [Act.put, List.setIfInBounds_toArray, List.set_cons_zero, List.set_cons_succ]
        refine take_dst (i := 24) 35 (v := undef) rfl rfl (by kernel_rfl) (by kernel_rfl) (by kernel_rfl) (fun _ _ _ h => h) (Or.inr ⟨by rfl, rfl⟩) (by assumption) ?_
        try simp only [Act.put, List.setIfInBounds_toArray, List.set_cons_zero, List.set_cons_succ]
        refine take_dst (i := 25) 36 (v := undef) rfl rfl (by kernel_rfl) (by kernel_rfl) (by kernel_rfl) (fun _ _ _ h => h) (Or.inr ⟨by rfl, rfl⟩) (by assumption) ?_
        try simp only [Act.put, List.setIfInBounds_toArray, List.set_cons_zero, List.set_cons_succ]
        refine take_dst (i := 26) 37 (v := ?_) rfl rfl (by kernel_rfl) (by kernel_rfl) (by kernel_rfl) (fun _ _ _ h => h) (Or.inl ⟨by rfl, ?_⟩) (by assumption) ?_
        case refine_2 => ((intro w hSw); (try dsimp only at hSw); go_simp; (try with_reducible rfl))
        try simp only [Act.put, List.setIfInBounds_toArray, List.set_cons_zero, List.set_cons_succ]
        refine wpAnyH_done (by kernel_rfl) ?_ _
        have hS := hHeld
        have HB5 := hid (HB.out.trans (hS.mono HB.out.size))
        have HX5 := hid ((hS.block w.heap.size hzr).trans HX.out)
        clear hS
        go_wp2
        go_ret
        exact ⟨by rw [HPB.out, show sealsB es es.length = false from seals_no HGB.out hlt]; rfl, HB5.out⟩
      | true =>
        rw [hrf] at CR HGD
        rw [Bool.true_and] at HGD
        clear hrf
        by_cases hi0 : i = 0
        · have hz1 : ¬ (0 : Int) < (i : Int) := by omega
          have HGB : Hid (sealGood es i = true) := hid (by rw [HGD.out]; exact decide_eq_true (fun h => absurd hi0 (by omega)))
          clear HGD hi0 HPREV
          have j0 : ∀ W : World, Below wr.heap.size wr W → W.cell? ⟨w.heap.size, 0, none⟩ = some (.slice (some ⟨g, o, none⟩) es.length c) := fun W hW => (hW.cell (p := ⟨w.heap.size, 0, none⟩) hzr).trans k0
          have l0 : ∀ W : World, Below wr.heap.size wr W → W.cell? ⟨g, o + i * 4, none⟩ = some (.int .i64 x0) := fun W hW => (hW.cell (p := ⟨g, o + i * 4, none⟩) hgw).trans m0
          have l1 : ∀ W : World, Below wr.heap.size wr W → W.cell? ⟨g, o + i * 4 + 1, none⟩ = some (.int .i64 x1) := fun W hW => (hW.cell (p := ⟨g, o + i * 4 + 1, none⟩) hgw).trans m1
          have l2 : ∀ W : World, Below wr.heap.size wr W → W.cell? ⟨g, o + i * 4 + 2, none⟩ = some (.string x2) := fun W hW => (hW.cell (p := ⟨g, o + i * 4 + 2, none⟩) hgw).trans m2
          have l3 : ∀ W : World, Below wr.heap.size wr W → W.cell? ⟨g, o + i * 4 + 3, none⟩ = some (.string x3) := fun W hW => (hW.cell (p := ⟨g, o + i * 4 + 3, none⟩) hgw).trans m3
          clear k1 k2 k3 k4 k5 m0 m1 m2 m3
          go_wp2
          refine wp_region_held_drew (S := fun w' => Below wr.heap.size wr w') (by kernel_rfl) (Below.drew (Below.refl _ _)) (fun hHeld => ?_)
          refine take_dst (i := 0) 11 (v := ?_) rfl rfl (by kernel_rfl) (by kernel_rfl) (by kernel_rfl) (fun _ _ _ h => h) (Or.inl ⟨by rfl, ?_⟩) (by assumption) ?_
          case refine_2 => ((intro w hSw); (try dsimp only at hSw); go_simp; (try with_reducible rfl))
          try simp only [Act.put, List.setIfInBounds_toArray, List.set_cons_zero, List.set_cons_succ]
          refine take_dst (i := 1) 12 (v := ?_) rfl rfl (by kernel_rfl) (by kernel_rfl) (by kernel_rfl) (fun _ _ _ h => h) (Or.inl ⟨by rfl, ?_⟩) (by assumption) ?_
          case refine_2 => ((intro w hSw); (try dsimp only at hSw); go_simp; (try with_reducible rfl))
          try simp only [Act.put, List.setIfInBounds_toArray, List.set_cons_zero, List.set_cons_succ]
          refine take_dst (i := 2) 13 (v := ?_) rfl rfl (by kernel_rfl) (by kernel_rfl) (by kernel_rfl) (fun _ _ _ h => h) (Or.inl ⟨by rfl, ?_⟩) (by assumption) ?_
          case refine_2 => ((intro w hSw); (try dsimp only at hSw); go_simp; (try with_reducible rfl))
          try simp only [Act.put, List.setIfInBounds_toArray, List.set_cons_zero, List.set_cons_succ]
          refine take_dst (i := 3) 14 (v := ?_) rfl rfl (by kernel_rfl) (by kernel_rfl) (by kernel_rfl) (fun _ _ _ h => h) (Or.inl ⟨by rfl, ?_⟩) (by assumption) ?_
          case refine_2 => ((intro w hSw); (try dsimp only at hSw); go_simp; (try with_reducible rfl))
          try simp only [Act.put, List.setIfInBounds_toArray, List.set_cons_zero, List.set_cons_succ]
          refine take_dst (i := 4) 15 (v := ?_) rfl rfl (by kernel_rfl) (by kernel_rfl) (by kernel_rfl) (fun _ _ _ h => h) (Or.inl ⟨by rfl, ?_⟩) (by assumption) ?_
          case refine_2 => ((intro w hSw); (try dsimp only at hSw); go_simp; (try with_reducible rfl))
          try simp only [Act.put, List.setIfInBounds_toArray, List.set_cons_zero, List.set_cons_succ]
          refine wpAnyH_ready (rs := [5]) (by kernel_rfl) (by simp) ?_
          refine AllReadyH.cons rfl (fun K hK => ?_) AllReadyH.nil
          go_simp
          go_at_call 77
          refine (CR.out _).mono ?_
          rintro e x1 ⟨rfl, hy1⟩
          go_wp2_with fail
          refine hK.out _ _ (below_hop hHeld (by simp) hy1) (fun hHeld => ?_)
          clear hK K
          try simp only [Act.put, List.setIfInBounds_toArray, List.set_cons_zero, List.set_cons_succ]
          refine take_dst (i := 6) 17 (v := ?_) rfl rfl (by kernel_rfl) (by kernel_rfl) (by kernel_rfl) (fun _ _ _ h => h) (Or.inl ⟨by rfl, ?_⟩) (by assumption) ?_
          case refine_2 => ((intro w hSw); (try dsimp only at hSw); go_simp; (try with_reducible rfl))
          try simp only [Act.put, List.setIfInBounds_toArray, List.set_cons_zero, List.set_cons_succ]
          refine take_dst (i := 7) 18 (v := ?_) rfl rfl (by kernel_rfl) (by kernel_rfl) (by kernel_rfl) (fun _ _ _ h => h) (Or.inl ⟨by rfl, ?_⟩) (by assumption) ?_
          case refine_2 => ((intro w hSw); (try dsimp only at hSw); go_simp; (try with_reducible rfl))
          try simp only [Act.put, List.setIfInBounds_toArray, List.set_cons_zero, List.set_cons_succ]
          refine take_dst (i := 8) 19 (v := ?_) rfl rfl (by kernel_rfl) (by kernel_rfl) (by kernel_rfl) (fun _ _ _ h => h) (Or.inl ⟨by rfl, ?_⟩) (by assumption) ?_
          case refine_2 => ((intro w hSw); (try dsimp only at hSw); go_simp; (try with_reducible rfl))
          try simp only [Act.put, List.setIfInBounds_toArray, List.set_cons_zero, List.set_cons_succ]
          refine take_dst (i := 9) 20 (v := .bool false) rfl rfl (by kernel_rfl) (by kernel_rfl) (by kernel_rfl) (fun _ _ _ h => h) (Or.inl ⟨by rfl, ?_⟩) (by assumption) ?_
          case refine_1 => ((intro w hSw); (try dsimp only at hSw); go_simp; (try first | omega | (simp; omega) | simp [hz1]))
          try simp only [Act.put, List.setIfInBounds_toArray, List.set_cons_zero, List.set_cons_succ]
          refine take_dst (i := 10) 21 (v := ?_) rfl rfl (by kernel_rfl) (by kernel_rfl) (by kernel_rfl) (fun _ _ _ h => h) (Or.inl ⟨by rfl, ?_⟩) (by assumption) ?_
          case refine_2 => ((intro w hSw); (try dsimp only at hSw); go_simp; (try with_reducible rfl))
          try simp only [Act.put, List.setIfInBounds_toArray, List.set_cons_zero, List.set_cons_succ]
          refine take_dst (i := 11) 22 (v := undef) rfl rfl (by kernel_rfl) (by kernel_rfl) (by kernel_rfl) (fun _ _ _ h => h) (Or.inr ⟨by rfl, rfl⟩) (by assumption) ?_
          try simp only [Act.put, List.setIfInBounds_toArray, List.set_cons_zero, List.set_cons_succ]
          refine take_dst (i := 12) 23 (v := undef) rfl rfl (by kernel_rfl) (by kernel_rfl) (by kernel_rfl) (fun _ _ _ h => h) (Or.inr ⟨by rfl, rfl⟩) (by assumption) ?_
          try simp only [Act.put, List.setIfInBounds_toArray, List.set_cons_zero, List.set_cons_succ]
          refine take_dst (i := 13) 24 (v := undef) rfl rfl (by kernel_rfl) (by kernel_rfl) (by kernel_rfl) (fun _ _ _ h => h) (Or.inr ⟨by rfl, rfl⟩) (by assumption) ?_
          try simp only [Act.put, List.setIfInBounds_toArray, List.set_cons_zero, List.set_cons_succ]
          refine take_dst (i := 14) 25 (v := undef) rfl rfl (by kernel_rfl) (by kernel_rfl) (by kernel_rfl) (fun _ _ _ h => h) (Or.inr ⟨by rfl, rfl⟩) (by assumption) ?_
          try simp only [Act.put, List.setIfInBounds_toArray, List.set_cons_zero, List.set_cons_succ]
          refine take_dst (i := 15) 26 (v := undef) rfl rfl (by kernel_rfl) (by kernel_rfl) (by kernel_rfl) (fun _ _ _ h => h) (Or.inr ⟨by rfl, rfl⟩) (by assumption) ?_
          try simp only [Act.put, List.setIfInBounds_toArray, List.set_cons_zero, List.set_cons_succ]
          refine take_dst (i := 16) 27 (v := undef) rfl rfl (by kernel_rfl) (by kernel_rfl) (by kernel_rfl) (fun _ _ _ h => h) (Or.inr ⟨by rfl, rfl⟩) (by assumption) ?_
          try simp only [Act.put, List.setIfInBounds_toArray, List.set_cons_zero, List.set_cons_succ]
          refine take_dst (i := 17) 28 (v := undef) rfl rfl (by kernel_rfl) (by kernel_rfl) (by kernel_rfl) (fun _ _ _ h => h) (Or.inr ⟨by rfl, rfl⟩) (by assumption) ?_
          try simp only [Act.put, List.setIfInBounds_toArray, List.set_cons_zero, List.set_cons_succ]
          refine take_dst (i := 18) 29 (v := undef) rfl rfl (by kernel_rfl) (by kernel_rfl) (by kernel_rfl) (fun _ _ _ h => h) (Or.inr ⟨by rfl, rfl⟩) (by assumption) ?_
          try simp only [Act.put, List.setIfInBounds_toArray, List.set_cons_zero, List.set_cons_succ]
          refine take_dst (i := 19) 30 (v := undef) rfl rfl (by kernel_rfl) (by kernel_rfl) (by kernel_rfl) (fun _ _ _ h => h) (Or.inr ⟨by rfl, rfl⟩) (by assumption) ?_
          try simp only [Act.put, List.setIfInBounds_toArray, List.set_cons_zero, List.set_cons_succ]
          refine take_dst (i := 20) 31 (v := undef) rfl rfl (by kernel_rfl) (by kernel_rfl) (by kernel_rfl) (fun _ _ _ h => h) (Or.inr ⟨by rfl, rfl⟩) (by assumption) ?_
          try simp only [Act.put, List.setIfInBounds_toArray, List.set_cons_zero, List.set_cons_succ]
          refine take_dst (i := 21) 32 (v := undef) rfl rfl (by kernel_rfl) (by kernel_rfl) (by kernel_rfl) (fun _ _ _ h => h) (Or.inr ⟨by rfl, rfl⟩) (by assumption) ?_
          try simp only [Act.put, List.setIfInBounds_toArray, List.set_cons_zero, List.set_cons_succ]
          refine take_dst (i := 22) 33 (v := undef) rfl rfl (by kernel_rfl) (by kernel_rfl) (by kernel_rfl) (fun _ _ _ h => h) (Or.inr ⟨by rfl, rfl⟩) (by assumption) ?_
          try simp only [Act.put, List.setIfInBounds_toArray, List.set_cons_zero, List.set_cons_succ]
          refine take_dst (i := 23) 34 (v := undef) rfl rfl (by kernel_rfl) (by kernel_rfl) (by kernel_rfl) (fun _ _ _ h => h) (Or.inr ⟨by rfl, rfl⟩) (by assumption) ?_
          try simp only [Act.put, List.setIfInBounds_toArray, List.set_cons_zero, List.set_cons_succ]
          refine take_dst (i := 24) 35 (v := undef) rfl rfl (by kernel_rfl) (by kernel_rfl) (by kernel_rfl) (fun _ _ _ h => h) (Or.inr ⟨by rfl, rfl⟩) (by assumption) ?_
          try simp only [Act.put, List.setIfInBounds_toArray, List.set_cons_zero, List.set_cons_succ]
          refine take_dst (i := 25) 36 (v := ?_) rfl rfl (by kernel_rfl) (by kernel_rfl) (by kernel_rfl) (fun _ _ _ h => h) (Or.inl ⟨by rfl, ?_⟩) (by assumption) ?_
          case refine_2 => ((intro w hSw); (try dsimp only at hSw); go_simp; (try with_reducible rfl))
          try simp only [Act.put, List.setIfInBounds_toArray, List.set_cons_zero, List.set_cons_succ]
          refine take_dst (i := 26) 37 (v := ?_) rfl rfl (by kernel_rfl) (by kernel_rfl) (by kernel_rfl) (fun _ _ _ h => h) (Or.inl ⟨by rfl, ?_⟩) (by assumption) ?_
          case refine_2 => ((intro w hSw); (try dsimp only at hSw); go_simp; (try with_reducible rfl))
          try simp only [Act.put, List.setIfInBounds_toArray, List.set_cons_zero, List.set_cons_succ]
          refine wpAnyH_done (by kernel_rfl) ?_ _
          have hS := hHeld
          have HB5 := hid (HB.out.trans (hS.mono HB.out.size))
          have HX5 := hid ((hS.block w.heap.size hzr).trans HX.out)
          clear hS
          go_wp2
          go_roundw
          case rel => exact ⟨i + 1, by omega, by go_num, HB5.out, HX5.out, by rw [seals_succ, HALL.out, HGB.out]; rfl⟩
          case measure => simp [RowKit.intOf]; omega
        · obtain ⟨j, rfl⟩ : ∃ j, i = j + 1 := ⟨i - 1, by omega⟩
          clear hi0
          have hjl : j < es.length := by omega
          have hp0 := HPREV.out j hjl
          have HGD2 : Hid (sealGood es (j + 1) = decide (0 < j + 1 → es[j].x0 < x0)) := hid (by rw [HGD.out, Nat.add_sub_cancel, seal_at hjl])
          have b3 : (0 : Int) ≤ (j : Int) := by omega
          have b4 : (j : Int) < (es.length : Int) := by omega
          have b5 : (0 : Int) ≤ (j : Int) + 1 := by omega
          have b6 : (j : Int) + 1 < (es.length : Int) := by omega
          have b7 : (0 : Int) < (j : Int) + 1 := by omega
          have b8 : IntKind.i64.wrap ((j : Int) + 1 - 1) = (j : Int) := by rw [IntKind.wrap_i64]; omega
          have b9 : IntKind.i64.wrap (j : Int) = (j : Int) := by rw [IntKind.wrap_i64]; omega
          have q0 : ∀ W : World, Below wr.heap.size wr W → W.cell? ⟨g, o + j * 4, none⟩ = some (.int .i64 es[j].x0) := fun W hW => (hW.cell (p := ⟨g, o + j * 4, none⟩) hgw).trans hp0
          clear HGD HPREV hp0
          generalize es[j].x0 = z at *
          by_cases hyx : z < x0
          · have hle : decide (x0 ≤ z) = false := decide_eq_false (by omega)
            have hle2 : ¬ x0 ≤ z := by omega
            have HGB : Hid (sealGood es (j + 1) = true) := hid (by rw [HGD2.out]; exact decide_eq_true (fun _ => hyx))
            clear HGD2 hyx
            have j0 : ∀ W : World, Below wr.heap.size wr W → W.cell? ⟨w.heap.size, 0, none⟩ = some (.slice (some ⟨g, o, none⟩) es.length c) := fun W hW => (hW.cell (p := ⟨w.heap.size, 0, none⟩) hzr).trans k0
            have l0 : ∀ W : World, Below wr.heap.size wr W → W.cell? ⟨g, o + (j + 1) * 4, none⟩ = some (.int .i64 x0) := fun W hW => (hW.cell (p := ⟨g, o + (j + 1) * 4, none⟩) hgw).trans m0
            have l1 : ∀ W : World, Below wr.heap.size wr W → W.cell? ⟨g, o + (j + 1) * 4 + 1, none⟩ = some (.int .i64 x1) := fun W hW => (hW.cell (p := ⟨g, o + (j + 1) * 4 + 1, none⟩) hgw).trans m1
            have l2 : ∀ W : World, Below wr.heap.size wr W → W.cell? ⟨g, o + (j + 1) * 4 + 2, none⟩ = some (.string x2) := fun W hW => (hW.cell (p := ⟨g, o + (j + 1) * 4 + 2, none⟩) hgw).trans m2
            have l3 : ∀ W : World, Below wr.heap.size wr W → W.cell? ⟨g, o + (j + 1) * 4 + 3, none⟩ = some (.string x3) := fun W hW => (hW.cell (p := ⟨g, o + (j + 1) * 4 + 3, none⟩) hgw).trans m3
            clear k1 k2 k3 k4 k5 m0 m1 m2 m3
            go_wp2
            first | (go_region_held3 (fun w' => Below wr.heap.size wr w') (first | with_reducible assumption | exact Below.drew (Below.refl _ _) | exact below_hop (by assumption) (by simp) (by assumption)) (first | (go_at_call 77; refine (CR.out _).mono ?_; rintro e x1w ⟨rfl, hy1⟩) | (fail "no arm"))) | (fail "held")
            rename_i hS
            have HB5 := hid (HB.out.trans (hS.mono HB.out.size))
            have HX5 := hid ((hS.block w.heap.size hzr).trans HX.out)
            clear hS
            go_wp2
            go_roundw
            case rel => exact ⟨j + 1 + 1, by omega, by go_num, HB5.out, HX5.out, by rw [seals_succ, HALL.out, HGB.out]; rfl⟩
            case measure => simp [RowKit.intOf]; omega
          · have hle : x0 ≤ z := by omega
            have HGB : Hid (sealGood es (j + 1) = false) := hid (by rw [HGD2.out]; exact decide_eq_false (fun h => hyx (h (Nat.succ_pos j))))
            clear HGD2 hyx
            have j0 : ∀ W : World, Below wr.heap.size wr W → W.cell? ⟨w.heap.size, 0, none⟩ = some (.slice (some ⟨g, o, none⟩) es.length c) := fun W hW => (hW.cell (p := ⟨w.heap.size, 0, none⟩) hzr).trans k0
            have l0 : ∀ W : World, Below wr.heap.size wr W → W.cell? ⟨g, o + (j + 1) * 4, none⟩ = some (.int .i64 x0) := fun W hW => (hW.cell (p := ⟨g, o + (j + 1) * 4, none⟩) hgw).trans m0
            have l1 : ∀ W : World, Below wr.heap.size wr W → W.cell? ⟨g, o + (j + 1) * 4 + 1, none⟩ = some (.int .i64 x1) := fun W hW => (hW.cell (p := ⟨g, o + (j + 1) * 4 + 1, none⟩) hgw).trans m1
            have l2 : ∀ W : World, Below wr.heap.size wr W → W.cell? ⟨g, o + (j + 1) * 4 + 2, none⟩ = some (.string x2) := fun W hW => (hW.cell (p := ⟨g, o + (j + 1) * 4 + 2, none⟩) hgw).trans m2
            have l3 : ∀ W : World, Below wr.heap.size wr W → W.cell? ⟨g, o + (j + 1) * 4 + 3, none⟩ = some (.string x3) := fun W hW => (hW.cell (p := ⟨g, o + (j + 1) * 4 + 3, none⟩) hgw).trans m3
            clear k1 k2 k3 k4 k5 m0 m1 m2 m3
            go_wp2
            first | (go_region_held3 (fun w' => Below wr.heap.size wr w') (first | with_reducible assumption | exact Below.drew (Below.refl _ _) | exact below_hop (by assumption) (by simp) (by assumption)) (first | (go_at_call 77; refine (CR.out _).mono ?_; rintro e x1w ⟨rfl, hy1⟩) | (fail "no arm"))) | (fail "held")
            rename_i hS
            have HB5 := hid (HB.out.trans (hS.mono HB.out.size))
            have HX5 := hid ((hS.block w.heap.size hzr).trans HX.out)
            clear hS
            go_wp2
            go_ret
            exact ⟨by rw [HPB.out, show sealsB es es.length = false from seals_no HGB.out hlt]; rfl, HB5.out⟩
    · have hie : i = es.length := by omega
      subst hie
      rw [HALL.out, Bool.true_and] at HPB
      clear HALL hbel hbox hall HS HA
      by_cases h0 : st = 0
      · subst h0
        rw [if_pos rfl] at HPD
        go_wp2
        go_ret
        exact ⟨by rw [HPB.out, HPD.out, HQ.out] <;> rfl, HB.out⟩
      · rw [if_neg h0] at HPD
        have e0 : (st == 0) = false := by rw [beq_eq_false_iff_ne]; exact h0
        have hb6 := hzr
        by_cases h12 : st = 1 ∨ st = 2
        · rw [if_pos h12] at HPD
          clear HE
          cases rs with
          | true =>
            rw [Bool.true_or] at HPD
            rcases h12 with rfl | rfl
            · go_wp2_with (go_at_call 77; refine (CP.out _).mono ?_; rintro e w7 ⟨rfl, hb7⟩; refine Hid.out ?_)
              refine hid ?_
              have HB7 := hid (HB.out.trans (hb7.mono HB.out.size))
              clear hb7 k0 k1 k2 k3 k4 k5
              go_wp2
              go_ret
              exact ⟨by rw [HPB.out, HPD.out] <;> rfl, HB7.out⟩
            · go_wp2_with (go_at_call 77; refine (CP.out _).mono ?_; rintro e w7 ⟨rfl, hb7⟩; refine Hid.out ?_)
              refine hid ?_
              have HB7 := hid (HB.out.trans (hb7.mono HB.out.size))
              clear hb7 k0 k1 k2 k3 k4 k5
              go_wp2
              go_ret
              exact ⟨by rw [HPB.out, HPD.out] <;> rfl, HB7.out⟩
          | false =>
            rw [Bool.false_or] at HPD
            rcases h12 with rfl | rfl
            · go_wp2_with (go_at_call 77; refine (CP.out _).mono ?_; rintro e w7 ⟨rfl, hb7⟩; refine Hid.out ?_)
              refine hid ?_
              have HB7 := hid (HB.out.trans (hb7.mono HB.out.size))
              have HX7 := hid ((hb7.block _ hzr).trans HX.out)
              clear hb7 k0 k1 k2 k3 k4 k5
              obtain ⟨k0, k1, k2, k3, k4, k5⟩ := six_cells HX7.out
              go_wp2_with (go_at_call 78; refine (CW.out _).mono ?_; rintro e w8 ⟨rfl, hb8⟩; refine Hid.out ?_)
              refine hid ?_
              have HB8 := hid (HB7.out.trans (hb8.mono HB7.out.size))
              clear hb8 k0 k1 k2 k3 k4 k5
              go_wp2
              go_ret
              exact ⟨by rw [HPB.out, HPD.out] <;> rfl, HB8.out⟩
            · go_wp2_with (go_at_call 77; refine (CP.out _).mono ?_; rintro e w7 ⟨rfl, hb7⟩; refine Hid.out ?_)
              refine hid ?_
              have HB7 := hid (HB.out.trans (hb7.mono HB.out.size))
              have HX7 := hid ((hb7.block _ hzr).trans HX.out)
              clear hb7 k0 k1 k2 k3 k4 k5
              obtain ⟨k0, k1, k2, k3, k4, k5⟩ := six_cells HX7.out
              go_wp2_with (go_at_call 78; refine (CW.out _).mono ?_; rintro e w8 ⟨rfl, hb8⟩; refine Hid.out ?_)
              refine hid ?_
              have HB8 := hid (HB7.out.trans (hb8.mono HB7.out.size))
              clear hb8 k0 k1 k2 k3 k4 k5
              go_wp2
              go_ret
              exact ⟨by rw [HPB.out, HPD.out] <;> rfl, HB8.out⟩
        · rw [if_neg h12] at HPD
          have e1 : (st == 1) = false := by rw [beq_eq_false_iff_ne]; exact fun h => h12 (Or.inl h)
          have e2 : (st == 2) = false := by rw [beq_eq_false_iff_ne]; exact fun h => h12 (Or.inr h)
          go_wp2
          go_ret
          exact ⟨by rw [HPB.out, HPD.out] <;> rfl, HB.out⟩
end Go.Proofs.YtponjghppnpnhaaDoor
