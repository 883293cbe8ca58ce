/- PolicyOk, the specification's. -/
import Derived.Test.YtedbhlihdfaaaaaDoorPackRelI
import Derived.Deep.QuietTactic
import Derived.BigQuiet
import Derived.RegionTactic
import Derived.Deep.RegionHeld3
namespace Go.Proofs.YtedbhlihdfaaaaaDoor
open Go.RowKit
open Go.Lib (hid)

theorem pol_drewN {B : Nat} {a w : World} (h : Below B a w) (n : Nat) : Below B a (w.drewN n) := ⟨h.os, h.tape, h.output, h.size, h.block⟩

theorem pol_step {B : Nat} {a b c : World} (h : Below B a b) (hB : B ≤ a.heap.size) (k : Below b.drew.heap.size b.drew c) : Below B a c := (Below.drew h).trans (k.mono (Nat.le_trans hB (Below.drew h).size))

theorem take_dst {P : Program} {md : Region.Mode} {ops : Array Oper} {Q : Exit → Act → World → Prop} {S : World → Prop} {i : Nat} {oi : Oper} (d : Tmp) {v : Value} {fuel : Nat} {listed : Array Bool} {a : Act} {w : World} (hi : ops[i]? = some oi) (hd : oi.dst = some d)
    (hs : Region.noSelect ops = true) (hf : Region.free md ops listed i = true) (hr : (Region.ready md ops listed).contains i = true)
    (hQ : ∀ c a w, Q (.panic c) (a.put (some d) v) w → Q (.panic c) a w) (hy : YieldsIf P ops S oi v a) (hS : S w)
    (h : wpAnyH P md ops Q S fuel (listed.setIfInBounds i true) (a.put (some d) v) w) : wpAnyH P md ops Q S (fuel + 1) listed a w := by
  rw [← hd] at hQ h
  exact wpAnyH_take hi hs hf hr hQ hy hS h

theorem box_on {w w' : World} {b : Nat} {o : Obj} (h : w.heap[b]? = some o) (hb : Below w.heap.size w w') : w'.heap[b]? = some o := (hb.block _ (Array.getElem?_eq_some_iff.1 h).1).trans h

set_option maxRecDepth 20000 in
set_option maxHeartbeats 4000000 in
theorem pol_spec (num : Int) (es : List RefD) (hn : es.length ≤ 1048576) (ps : List (List UInt8)) (hm : ps.length ≤ 1048576) (hs : ∀ p ∈ ps, p.length ≤ 1048576) (a b : Value) (w : World) (ha : FRow encRef 3 w a es) (hb : TextsAt w b ps) :
    Calls Tryd.prog 121 #[.agg #[.int .i64 num, a, b]] w fun e w' => e = .returned (.bool (polB num es ps)) ∧ Below w.heap.size w w' := by
  have HA := hid ha
  have HE := hid hb
  have HS := hid hs
  obtain ⟨p, c, rfl, _, hrest⟩ := ha
  obtain ⟨q, d, rfl, hrest2⟩ := hb
  clear hrest hrest2 hs
  obtain ⟨W0, hW0⟩ : ∃ W0, W0 = w.alloc (.cells #[.int .i64 num, .slice p es.length c, .slice q ps.length d] 68) := ⟨_, rfl⟩
  have HB0 : Hid (Below w.heap.size w W0) := hid (by rw [hW0]; exact (Below.refl _ _).alloc (Nat.le_refl _) _)
  have HV0 : Hid (W0.heap[w.heap.size]? = some (.cells #[.int .i64 num, .slice p es.length c, .slice q ps.length d] 68)) := hid (by rw [hW0]; exact heap_alloc_new _ _)
  have HW0 := hid hW0
  have HPB : Hid (polB num es ps = (decide (0 ≤ num ∧ num ≤ 1000000000) && (decide (es.length ≤ 60) && (decide (ps.length ≤ 60) && (rowsB es es.length && risB ps ps.length))))) := hid rfl
  have CI := hid (fun W => in_any num 0 1000000000 W)
  obtain ⟨k0, k1, k2⟩ := three_refs HV0.out
  generalize polB num es ps = r at *
  clear hW0
  cases h1 : decide (0 ≤ num ∧ num ≤ 1000000000) with
  | false =>
    rw [h1] at CI HPB
    clear h1
    go_enter Tryd.func121, Tryd.ntmps121
    go_wp2_with (go_at_call 133; rw [← HW0.out]; refine (CI.out _).mono ?_; rintro e wq ⟨rfl, eq⟩; rw [eq]; clear eq wq; refine Hid.out ?_)
    refine hid ?_
    go_wp2
    go_ret
    exact ⟨by rw [HPB.out]; rfl, HB0.out⟩
  | true =>
    rw [h1] at CI HPB
    clear h1
    by_cases h2 : es.length ≤ 60
    · have d2 : ¬ (es.length : Int) > 60 := by omega
      rw [decide_eq_true h2] at HPB
      by_cases h3 : ps.length ≤ 60
      · have d3 : ¬ (ps.length : Int) > 60 := by omega
        rw [decide_eq_true h3, Bool.true_and, Bool.true_and, Bool.true_and] at HPB
        go_enter Tryd.func121, Tryd.ntmps121
        go_wp2_with (go_at_call 133; rw [← HW0.out]; refine (CI.out _).mono ?_; rintro e wq ⟨rfl, eq⟩; rw [eq]; clear eq wq; refine Hid.out ?_)
        refine hid ?_
        go_wp2
        go_loopw [3] (fun iv wr => ∃ i : Nat, i ≤ es.length ∧ iv = .int .i64 i ∧ Below w.heap.size w wr ∧ wr.heap[w.heap.size]? = some (.cells #[.int .i64 num, .slice p es.length c, .slice q ps.length d] 68) ∧ rowsB es i = true) (fun iv _ => es.length - (RowKit.intOf iv).toNat)
        case atStart => exact ⟨0, Nat.zero_le _, rfl, HB0.out, HV0.out, rfl⟩
        case round =>
          clear k0 k1 k2
          obtain ⟨i, hi, rfl, hbel, hbox, hall⟩ := hrel
          have HB := hid hbel
          have HX := hid hbox
          have HALL := hid hall
          obtain ⟨k0, k1, k2⟩ := three_refs hbox
          have hzr : w.heap.size < wr.heap.size := (Array.getElem?_eq_some_iff.1 hbox).1
          by_cases hlt : i < es.length
          · have hne : es ≠ [] := fun h => by rw [h] at hlt; cases hlt
            obtain ⟨p', c', hv, _, hp⟩ := HA.out
            obtain ⟨rfl, rfl⟩ : p = p' ∧ c = c' := by injection hv with h1 h2 h3; exact ⟨h1, by omega⟩
            obtain ⟨g, o, rfl, hg, hc⟩ := hp hne
            clear hv hp
            have HC := hid hc
            have b1 : (0 : Int) ≤ (i : Int) := by omega
            have b2 : (i : Int) < (es.length : Int) := by omega
            have hgw : g < wr.heap.size := Nat.lt_of_lt_of_le hg hbel.size
            have l0 : wr.cell? ⟨g, o + i * 3, none⟩ = some (.int .i64 es[i].x0) := (hbel.cell (p := ⟨g, o + i * 3, none⟩) hg).trans (hc i hlt 0 (by decide))
            have l1 : wr.cell? ⟨g, o + i * 3 + 1, none⟩ = some (.string es[i].x1) := (hbel.cell (p := ⟨g, o + i * 3 + 1, none⟩) hg).trans (hc i hlt 1 (by decide))
            have l2 : wr.cell? ⟨g, o + i * 3 + 2, none⟩ = some (.int .i64 es[i].x2) := (hbel.cell (p := ⟨g, o + i * 3 + 2, none⟩) hg).trans (hc i hlt 2 (by decide))
            have HGD : Hid (rowGood es i = (refB es[i] && apartB es i i)) := hid (by unfold rowGood; rw [ref_at hlt])
            have HAP : Hid (∀ k, apartB es i (k + 1) = (apartB es i k && decide (¬ sameK (es.getD k zRef) es[i]))) := hid (fun k => by unfold apartB; rw [allr_succ, ref_at hlt])
            have HAN : Hid (∀ k, k < i → sameK (es.getD k zRef) es[i] → apartB es i i = false) := hid (fun k hk h => by unfold apartB; exact allr_no (n := k) (by show decide (¬ sameK (es.getD k zRef) (es.getD i zRef)) = false; rw [ref_at hlt]; exact decide_eq_false (fun hn => hn h)) hk)
            clear hc hbel hbox hall
            generalize hei : es[i] = ei at *
            obtain ⟨x, nm, y⟩ := ei
            dsimp only at *
            have CR := hid (fun W => ref_spec x nm y W)
            cases hrf : refB ⟨x, nm, y⟩ with
            | false =>
              have HGB : Hid (rowGood es i = false) := hid (by rw [HGD.out, hrf]; rfl)
              rw [hrf] at CR
              clear hrf HGD
              go_wp2_with (go_at_call 122; refine (CR.out _).mono ?_; rintro e w3 ⟨rfl, hb3⟩; refine Hid.out ?_)
              refine hid ?_
              have HB3 := hid (HB.out.trans (hb3.mono HB.out.size))
              clear hb3
              go_wp2
              go_ret
              exact ⟨by rw [HPB.out, show rowsB es es.length = false from allr_no HGB.out hlt]; rfl, HB3.out⟩
            | true =>
              rw [hrf] at CR HGD
              rw [Bool.true_and] at HGD
              clear hrf
              go_wp2_with (go_at_call 122; refine (CR.out _).mono ?_; rintro e w3 ⟨rfl, hb3⟩; refine Hid.out ?_)
              refine hid ?_
              have HB3 := hid (HB.out.trans (hb3.mono HB.out.size))
              have HX3 := hid (box_on HX.out hb3)
              clear hb3 k0 k1 k2 l0 l1 l2
              go_wp2
              go_loopw [4] (fun iv wr => ∃ k : Nat, k ≤ i ∧ iv = .int .i64 k ∧ Below w.heap.size w wr ∧ wr.heap[w.heap.size]? = some (.cells #[.int .i64 num, .slice (some ⟨g, o, none⟩) es.length c, .slice q ps.length d] 68) ∧ apartB es i k = true) (fun iv _ => i - (RowKit.intOf iv).toNat)
              case atStart => exact ⟨0, Nat.zero_le _, rfl, HB3.out, HX3.out, rfl⟩
              case round =>
                clear HB3 HX3 HB HX hgw hzr
                rename_i wo _ _ _
                obtain ⟨k, hk, rfl, hbel, hbox, hap⟩ := hrel
                have HB := hid hbel
                have HX := hid hbox
                have HAPK := hid hap
                obtain ⟨k0, k1, k2⟩ := three_refs hbox
                by_cases hki : k < i
                · have hkl : k < es.length := by omega
                  have b3 : (0 : Int) ≤ (k : Int) := by omega
                  have b4 : (k : Int) < (es.length : Int) := by omega
                  have b5 : (k : Int) < (i : Int) := by omega
                  have hgw : g < wr.heap.size := Nat.lt_of_lt_of_le hg hbel.size
                  have l0 : wr.cell? ⟨g, o + i * 3, none⟩ = some (.int .i64 x) := (hbel.cell (p := ⟨g, o + i * 3, none⟩) hg).trans ((HC.out i hlt 0 (by decide)).trans (by rw [hei]; rfl))
                  have l1 : wr.cell? ⟨g, o + i * 3 + 1, none⟩ = some (.string nm) := (hbel.cell (p := ⟨g, o + i * 3 + 1, none⟩) hg).trans ((HC.out i hlt 1 (by decide)).trans (by rw [hei]; rfl))
                  have m0 : wr.cell? ⟨g, o + k * 3, none⟩ = some (.int .i64 es[k].x0) := (hbel.cell (p := ⟨g, o + k * 3, none⟩) hg).trans (HC.out k hkl 0 (by decide))
                  have m1 : wr.cell? ⟨g, o + k * 3 + 1, none⟩ = some (.string es[k].x1) := (hbel.cell (p := ⟨g, o + k * 3 + 1, none⟩) hg).trans (HC.out k hkl 1 (by decide))
                  have HAPS : Hid (apartB es i (k + 1) = decide (¬ sameK es[k] ⟨x, nm, y⟩)) := hid (by rw [HAP.out, HAPK.out, ref_at hkl, Bool.true_and])
                  have HANS : Hid (sameK es[k] ⟨x, nm, y⟩ → apartB es i i = false) := hid (fun h => HAN.out k hki (by rw [ref_at hkl]; exact h))
                  clear hbel hbox hap
                  generalize es[k] = ek at *
                  obtain ⟨u, nk, v⟩ := ek
                  dsimp only at *
                  by_cases t1 : u = x
                  · have t1b : ((u : Int) == x) = true := by rw [t1]; simp
                    by_cases t2 : nk.data.toList = nm.data.toList
                    · have t2b := same_yes t2
                      have HGB : Hid (rowGood es i = false) := hid (by rw [HGD.out, HANS.out ⟨t1, t2⟩])
                      clear t1 t2 HAPS HANS hei
                      go_wp2
                      go_quiet (fail)
                      have hbd := pol_drewN HB.out nq
                      go_wp2
                      go_ret
                      exact ⟨by rw [HPB.out, show rowsB es es.length = false from allr_no HGB.out hlt]; rfl, hbd⟩
                    · have t2b := same_no t2
                      have HGO : Hid (apartB es i (k + 1) = true) := hid (by rw [HAPS.out]; exact decide_eq_true (fun h => t2 h.2))
                      clear t1 t2 HAPS HANS hei
                      go_wp2
                      go_quiet (fail)
                      have hbd := pol_drewN HB.out nq
                      go_wp2
                      go_roundw
                      case rel => exact ⟨k + 1, by omega, by go_num, hbd, HX.out, HGO.out⟩
                      case measure => simp [RowKit.intOf]; omega
                  · have t1b : ((u : Int) == x) = false := beq_eq_false_iff_ne.2 t1
                    have HGO : Hid (apartB es i (k + 1) = true) := hid (by rw [HAPS.out]; exact decide_eq_true (fun h => t1 h.1))
                    clear t1 HAPS HANS hei
                    go_wp2
                    go_quiet (fail)
                    have hbd := pol_drewN HB.out nq
                    go_wp2
                    go_roundw
                    case rel => exact ⟨k + 1, by omega, by go_num, hbd, HX.out, HGO.out⟩
                    case measure => simp [RowKit.intOf]; omega
                · have hke : k = i := by omega
                  subst hke
                  have HGB : Hid (rowGood es k = true) := hid (by rw [HGD.out, HAPK.out])
                  clear hei
                  go_wp2
                  go_roundw
                  case rel => exact ⟨k + 1, by omega, by go_num, HB.out, HX.out, by unfold rowsB; rw [allr_succ]; show (rowsB es k && rowGood es k) = true; rw [HALL.out, HGB.out]; rfl⟩
                  case measure => simp [RowKit.intOf]; omega
          · have hie : i = es.length := by omega
            subst hie
            rw [HALL.out, Bool.true_and] at HPB
            clear hlt hbel hbox hall HALL
            go_wp2
            go_loopw [5] (fun iv wr => ∃ i : Nat, i ≤ ps.length ∧ iv = .int .i64 i ∧ Below w.heap.size w wr ∧ wr.heap[w.heap.size]? = some (.cells #[.int .i64 num, .slice p es.length c, .slice q ps.length d] 68) ∧ risB ps i = true) (fun iv _ => ps.length - (RowKit.intOf iv).toNat)
            case atStart => exact ⟨0, Nat.zero_le _, rfl, HB.out, HX.out, rfl⟩
            case round =>
              clear k0 k1 k2 HB HX
              obtain ⟨i, hi, rfl, hbel, hbox, hall⟩ := hrel
              have HB := hid hbel
              have HX := hid hbox
              have HALL := hid hall
              obtain ⟨k0, k1, k2⟩ := three_refs hbox
              have hzr : w.heap.size < wr.heap.size := (Array.getElem?_eq_some_iff.1 hbox).1
              by_cases hlt : i < ps.length
              · have hne : ps ≠ [] := fun h => by rw [h] at hlt; cases hlt
                obtain ⟨q', d', hv, hq⟩ := HE.out
                obtain ⟨rfl, rfl⟩ : q = q' ∧ d = d' := by injection hv with h1 h2 h3; exact ⟨h1, by omega⟩
                obtain ⟨g, rfl, hk⟩ := hq hne
                have hkr := hk.on hbel
                have HKR := hid hkr
                have hgw := hkr.1
                have hc1 := hkr.2 i hlt
                rw [show (⟨ps[i].toArray⟩ : ByteArray) = bytesOf ps[i] from rfl] at hc1
                have b1 : (0 : Int) ≤ (i : Int) := by omega
                have b2 : (i : Int) < (ps.length : Int) := by omega
                have KC := hid (fun W => kind_spec (bytesOf ps[i]) W (by rw [bytesOf_size]; exact HS.out _ (List.getElem_mem hlt)))
                have HGD : Hid (risGood ps i = (decide ((nodeOf (bytesOf ps[i])).1 ≠ 0) && decide (0 < i → ps.getD (i - 1) [] < ps[i]))) := hid (by unfold risGood; rw [txt_at hlt])
                clear hv hq hk hkr hbel hbox hall
                generalize hxe : ps[i] = x at *
                have HXE := hid hxe
                clear hxe
                generalize hkk : (nodeOf (bytesOf x)).1 = kk at *
                clear hkk
                by_cases h0 : kk = 0
                · have HGB : Hid (risGood ps i = false) := hid (by rw [HGD.out, decide_eq_false (fun h => h h0)]; rfl)
                  subst h0
                  have KC0 : Hid (∀ W : World, Calls Tryd.prog 88 #[.string (bytesOf x)] W fun e w' => e = .returned (.int .i64 0) ∧ Below W.heap.size W w') := KC
                  clear HGD HKR KC
                  generalize bytesOf x = X at *
                  have j2 : ∀ W : World, Below wr.heap.size wr W → W.cell? ⟨w.heap.size, 2, none⟩ = some (.slice (some ⟨g, 0, none⟩) ps.length d) := fun W hW => (hW.cell (p := ⟨w.heap.size, 2, none⟩) hzr).trans k2
                  have jx : ∀ W : World, Below wr.heap.size wr W → W.cell? ⟨g, i, none⟩ = some (.string X) := fun W hW => (hW.cell (p := ⟨g, i, none⟩) hgw).trans hc1
                  go_wp2
                  refine wp_region_held_drew (S := fun w' => Below wr.heap.size wr w') (by kernel_rfl) (Below.drew (Below.refl _ _)) (fun hHeld => ?_)
                  refine take_dst (i := 0) 76 (v := ?_) rfl rfl (by kernel_rfl) (by kernel_rfl) (by kernel_rfl) (fun _ _ _ h => h) (Or.inl ⟨by rfl, ?_⟩) (by assumption) ?_
                  case refine_2 => ((intro w hSw); (try dsimp only at hSw); go_simp; (try with_reducible rfl))
                  try simp only [Act.put, List.setIfInBounds_toArray, List.set_cons_zero, List.set_cons_succ]
                  refine take_dst (i := 2) 78 (v := ?_) rfl rfl (by kernel_rfl) (by kernel_rfl) (by kernel_rfl) (fun _ _ _ h => h) (Or.inl ⟨by rfl, ?_⟩) (by assumption) ?_
                  case refine_2 => ((intro w hSw); (try dsimp only at hSw); go_simp; (try with_reducible rfl))
                  try simp only [Act.put, List.setIfInBounds_toArray, List.set_cons_zero, List.set_cons_succ]
                  refine take_dst (i := 1) 77 (v := ?_) rfl rfl (by kernel_rfl) (by kernel_rfl) (by kernel_rfl) (fun _ _ _ h => h) (Or.inl ⟨by rfl, ?_⟩) (by assumption) ?_
                  case refine_2 => ((intro w hSw); (try dsimp only at hSw); go_simp; (try with_reducible rfl))
                  try simp only [Act.put, List.setIfInBounds_toArray, List.set_cons_zero, List.set_cons_succ]
                  refine take_dst (i := 3) 79 (v := ?_) rfl rfl (by kernel_rfl) (by kernel_rfl) (by kernel_rfl) (fun _ _ _ h => h) (Or.inl ⟨by rfl, ?_⟩) (by assumption) ?_
                  case refine_2 => ((intro w hSw); (try dsimp only at hSw); go_simp; (try with_reducible rfl))
                  try simp only [Act.put, List.setIfInBounds_toArray, List.set_cons_zero, List.set_cons_succ]
                  refine take_dst (i := 4) 80 (v := ?_) rfl rfl (by kernel_rfl) (by kernel_rfl) (by kernel_rfl) (fun _ _ _ h => h) (Or.inl ⟨by rfl, ?_⟩) (by assumption) ?_
                  case refine_2 => ((intro w hSw); (try dsimp only at hSw); go_simp; (try with_reducible rfl))
                  try simp only [Act.put, List.setIfInBounds_toArray, List.set_cons_zero, List.set_cons_succ]
                  refine wpAnyH_ready (rs := [5]) (by kernel_rfl) (by simp) ?_
                  refine AllReadyH.cons rfl (fun K hK => ?_) AllReadyH.nil
                  go_simp
                  go_at_call 88
                  refine (KC0.out _).mono ?_
                  rintro e x1 ⟨rfl, hy1⟩
                  go_wp2_with fail
                  refine hK.out _ _ (below_hop hHeld (by simp) hy1) (fun hHeld => ?_)
                  clear hK K
                  try simp only [Act.put, List.setIfInBounds_toArray, List.set_cons_zero, List.set_cons_succ]
                  refine take_dst (i := 6) 82 (v := ?_) rfl rfl (by kernel_rfl) (by kernel_rfl) (by kernel_rfl) (fun _ _ _ h => h) (Or.inl ⟨by rfl, ?_⟩) (by assumption) ?_
                  case refine_2 => ((intro w hSw); (try dsimp only at hSw); go_simp; (try with_reducible rfl))
                  try simp only [Act.put, List.setIfInBounds_toArray, List.set_cons_zero, List.set_cons_succ]
                  refine take_dst (i := 7) 83 (v := ?_) rfl rfl (by kernel_rfl) (by kernel_rfl) (by kernel_rfl) (fun _ _ _ h => h) (Or.inl ⟨by rfl, ?_⟩) (by assumption) ?_
                  case refine_2 => ((intro w hSw); (try dsimp only at hSw); go_simp; (try with_reducible rfl))
                  try simp only [Act.put, List.setIfInBounds_toArray, List.set_cons_zero, List.set_cons_succ]
                  refine take_dst (i := 8) 84 (v := undef) rfl rfl (by kernel_rfl) (by kernel_rfl) (by kernel_rfl) (fun _ _ _ h => h) (Or.inr ⟨by rfl, rfl⟩) (by assumption) ?_
                  try simp only [Act.put, List.setIfInBounds_toArray, List.set_cons_zero, List.set_cons_succ]
                  refine take_dst (i := 9) 85 (v := undef) rfl rfl (by kernel_rfl) (by kernel_rfl) (by kernel_rfl) (fun _ _ _ h => h) (Or.inr ⟨by rfl, rfl⟩) (by assumption) ?_
                  try simp only [Act.put, List.setIfInBounds_toArray, List.set_cons_zero, List.set_cons_succ]
                  refine take_dst (i := 10) 86 (v := undef) rfl rfl (by kernel_rfl) (by kernel_rfl) (by kernel_rfl) (fun _ _ _ h => h) (Or.inr ⟨by rfl, rfl⟩) (by assumption) ?_
                  try simp only [Act.put, List.setIfInBounds_toArray, List.set_cons_zero, List.set_cons_succ]
                  refine take_dst (i := 11) 87 (v := undef) rfl rfl (by kernel_rfl) (by kernel_rfl) (by kernel_rfl) (fun _ _ _ h => h) (Or.inr ⟨by rfl, rfl⟩) (by assumption) ?_
                  try simp only [Act.put, List.setIfInBounds_toArray, List.set_cons_zero, List.set_cons_succ]
                  refine take_dst (i := 12) 88 (v := undef) rfl rfl (by kernel_rfl) (by kernel_rfl) (by kernel_rfl) (fun _ _ _ h => h) (Or.inr ⟨by rfl, rfl⟩) (by assumption) ?_
                  try simp only [Act.put, List.setIfInBounds_toArray, List.set_cons_zero, List.set_cons_succ]
                  refine take_dst (i := 13) 89 (v := undef) rfl rfl (by kernel_rfl) (by kernel_rfl) (by kernel_rfl) (fun _ _ _ h => h) (Or.inr ⟨by rfl, rfl⟩) (by assumption) ?_
                  try simp only [Act.put, List.setIfInBounds_toArray, List.set_cons_zero, List.set_cons_succ]
                  refine take_dst (i := 14) 90 (v := undef) rfl rfl (by kernel_rfl) (by kernel_rfl) (by kernel_rfl) (fun _ _ _ h => h) (Or.inr ⟨by rfl, rfl⟩) (by assumption) ?_
                  try simp only [Act.put, List.setIfInBounds_toArray, List.set_cons_zero, List.set_cons_succ]
                  refine take_dst (i := 15) 91 (v := undef) rfl rfl (by kernel_rfl) (by kernel_rfl) (by kernel_rfl) (fun _ _ _ h => h) (Or.inr ⟨by rfl, rfl⟩) (by assumption) ?_
                  try simp only [Act.put, List.setIfInBounds_toArray, List.set_cons_zero, List.set_cons_succ]
                  refine take_dst (i := 16) 92 (v := undef) rfl rfl (by kernel_rfl) (by kernel_rfl) (by kernel_rfl) (fun _ _ _ h => h) (Or.inr ⟨by rfl, rfl⟩) (by assumption) ?_
                  try simp only [Act.put, List.setIfInBounds_toArray, List.set_cons_zero, List.set_cons_succ]
                  refine take_dst (i := 17) 93 (v := undef) rfl rfl (by kernel_rfl) (by kernel_rfl) (by kernel_rfl) (fun _ _ _ h => h) (Or.inr ⟨by rfl, rfl⟩) (by assumption) ?_
                  try simp only [Act.put, List.setIfInBounds_toArray, List.set_cons_zero, List.set_cons_succ]
                  refine take_dst (i := 18) 94 (v := undef) rfl rfl (by kernel_rfl) (by kernel_rfl) (by kernel_rfl) (fun _ _ _ h => h) (Or.inr ⟨by rfl, rfl⟩) (by assumption) ?_
                  try simp only [Act.put, List.setIfInBounds_toArray, List.set_cons_zero, List.set_cons_succ]
                  refine take_dst (i := 19) 95 (v := undef) rfl rfl (by kernel_rfl) (by kernel_rfl) (by kernel_rfl) (fun _ _ _ h => h) (Or.inr ⟨by rfl, rfl⟩) (by assumption) ?_
                  try simp only [Act.put, List.setIfInBounds_toArray, List.set_cons_zero, List.set_cons_succ]
                  refine take_dst (i := 20) 96 (v := undef) rfl rfl (by kernel_rfl) (by kernel_rfl) (by kernel_rfl) (fun _ _ _ h => h) (Or.inr ⟨by rfl, rfl⟩) (by assumption) ?_
                  try simp only [Act.put, List.setIfInBounds_toArray, List.set_cons_zero, List.set_cons_succ]
                  refine take_dst (i := 21) 97 (v := undef) rfl rfl (by kernel_rfl) (by kernel_rfl) (by kernel_rfl) (fun _ _ _ h => h) (Or.inr ⟨by rfl, rfl⟩) (by assumption) ?_
                  try simp only [Act.put, List.setIfInBounds_toArray, List.set_cons_zero, List.set_cons_succ]
                  refine take_dst (i := 22) 98 (v := undef) rfl rfl (by kernel_rfl) (by kernel_rfl) (by kernel_rfl) (fun _ _ _ h => h) (Or.inr ⟨by rfl, rfl⟩) (by assumption) ?_
                  try simp only [Act.put, List.setIfInBounds_toArray, List.set_cons_zero, List.set_cons_succ]
                  refine take_dst (i := 23) 99 (v := undef) rfl rfl (by kernel_rfl) (by kernel_rfl) (by kernel_rfl) (fun _ _ _ h => h) (Or.inr ⟨by rfl, rfl⟩) (by assumption) ?_
                  try simp only [Act.put, List.setIfInBounds_toArray, List.set_cons_zero, List.set_cons_succ]
                  refine take_dst (i := 24) 100 (v := ?_) rfl rfl (by kernel_rfl) (by kernel_rfl) (by kernel_rfl) (fun _ _ _ h => h) (Or.inl ⟨by rfl, ?_⟩) (by assumption) ?_
                  case refine_2 => ((intro w hSw); (try dsimp only at hSw); go_simp; (try with_reducible rfl))
                  try simp only [Act.put, List.setIfInBounds_toArray, List.set_cons_zero, List.set_cons_succ]
                  refine wpAnyH_done (by kernel_rfl) ?_ _
                  have hS := hHeld
                  have HB5 := hid (HB.out.trans (hS.mono HB.out.size))
                  have HX5 := hid ((hS.block w.heap.size hzr).trans HX.out)
                  clear hS
                  go_wp2
                  go_ret
                  exact ⟨by rw [HPB.out, show risB ps ps.length = false from allr_no HGB.out hlt]; rfl, HB5.out⟩
                · rw [decide_eq_true h0, Bool.true_and] at HGD
                  obtain ⟨m, rfl⟩ := Nat.exists_eq_succ_of_ne_zero h0
                  have hb0 : (((m + 1 : Nat) : Int) == 0) = false := by rw [beq_eq_false_iff_ne]; omega
                  clear h0
                  by_cases hi0 : i = 0
                  · have hz1 : ¬ (0 : Int) < (i : Int) := by omega
                    have hz2 : (i : Int) ≤ 0 := by omega
                    have HGB : Hid (risGood ps i = true) := hid (by rw [HGD.out]; exact decide_eq_true (fun h => absurd hi0 (by omega)))
                    clear HGD HKR hi0
                    generalize bytesOf x = X at *
                    have j2 : ∀ W : World, Below wr.heap.size wr W → W.cell? ⟨w.heap.size, 2, none⟩ = some (.slice (some ⟨g, 0, none⟩) ps.length d) := fun W hW => (hW.cell (p := ⟨w.heap.size, 2, none⟩) hzr).trans k2
                    have jx : ∀ W : World, Below wr.heap.size wr W → W.cell? ⟨g, i, none⟩ = some (.string X) := fun W hW => (hW.cell (p := ⟨g, i, none⟩) hgw).trans hc1
                    go_wp2
                    refine wp_region_held_drew (S := fun w' => Below wr.heap.size wr w') (by kernel_rfl) (Below.drew (Below.refl _ _)) (fun hHeld => ?_)
                    refine take_dst (i := 0) 76 (v := ?_) rfl rfl (by kernel_rfl) (by kernel_rfl) (by kernel_rfl) (fun _ _ _ h => h) (Or.inl ⟨by rfl, ?_⟩) (by assumption) ?_
                    case refine_2 => ((intro w hSw); (try dsimp only at hSw); go_simp; (try with_reducible rfl))
                    try simp only [Act.put, List.setIfInBounds_toArray, List.set_cons_zero, List.set_cons_succ]
                    refine take_dst (i := 2) 78 (v := ?_) rfl rfl (by kernel_rfl) (by kernel_rfl) (by kernel_rfl) (fun _ _ _ h => h) (Or.inl ⟨by rfl, ?_⟩) (by assumption) ?_
                    case refine_2 => ((intro w hSw); (try dsimp only at hSw); go_simp; (try with_reducible rfl))
                    try simp only [Act.put, List.setIfInBounds_toArray, List.set_cons_zero, List.set_cons_succ]
                    refine take_dst (i := 1) 77 (v := ?_) rfl rfl (by kernel_rfl) (by kernel_rfl) (by kernel_rfl) (fun _ _ _ h => h) (Or.inl ⟨by rfl, ?_⟩) (by assumption) ?_
                    case refine_2 => ((intro w hSw); (try dsimp only at hSw); go_simp; (try with_reducible rfl))
                    try simp only [Act.put, List.setIfInBounds_toArray, List.set_cons_zero, List.set_cons_succ]
                    refine take_dst (i := 3) 79 (v := ?_) rfl rfl (by kernel_rfl) (by kernel_rfl) (by kernel_rfl) (fun _ _ _ h => h) (Or.inl ⟨by rfl, ?_⟩) (by assumption) ?_
                    case refine_2 => ((intro w hSw); (try dsimp only at hSw); go_simp; (try with_reducible rfl))
                    try simp only [Act.put, List.setIfInBounds_toArray, List.set_cons_zero, List.set_cons_succ]
                    refine take_dst (i := 4) 80 (v := ?_) rfl rfl (by kernel_rfl) (by kernel_rfl) (by kernel_rfl) (fun _ _ _ h => h) (Or.inl ⟨by rfl, ?_⟩) (by assumption) ?_
                    case refine_2 => ((intro w hSw); (try dsimp only at hSw); go_simp; (try with_reducible rfl))
                    try simp only [Act.put, List.setIfInBounds_toArray, List.set_cons_zero, List.set_cons_succ]
                    refine wpAnyH_ready (rs := [5]) (by kernel_rfl) (by simp) ?_
                    refine AllReadyH.cons rfl (fun K hK => ?_) AllReadyH.nil
                    go_simp
                    go_at_call 88
                    refine (KC.out _).mono ?_
                    rintro e x1 ⟨rfl, hy1⟩
                    go_wp2_with fail
                    refine hK.out _ _ (below_hop hHeld (by simp) hy1) (fun hHeld => ?_)
                    clear hK K
                    try simp only [Act.put, List.setIfInBounds_toArray, List.set_cons_zero, List.set_cons_succ]
                    refine take_dst (i := 6) 82 (v := ?_) rfl rfl (by kernel_rfl) (by kernel_rfl) (by kernel_rfl) (fun _ _ _ h => h) (Or.inl ⟨by rfl, ?_⟩) (by assumption) ?_
                    case refine_2 => ((intro w hSw); (try dsimp only at hSw); go_simp; (try with_reducible rfl))
                    try simp only [Act.put, List.setIfInBounds_toArray, List.set_cons_zero, List.set_cons_succ]
                    refine take_dst (i := 7) 83 (v := ?_) rfl rfl (by kernel_rfl) (by kernel_rfl) (by kernel_rfl) (fun _ _ _ h => h) (Or.inl ⟨by rfl, ?_⟩) (by assumption) ?_
                    case refine_2 => ((intro w hSw); (try dsimp only at hSw); go_simp; (try with_reducible rfl))
                    try simp only [Act.put, List.setIfInBounds_toArray, List.set_cons_zero, List.set_cons_succ]
                    refine take_dst (i := 8) 84 (v := ?_) rfl rfl (by kernel_rfl) (by kernel_rfl) (by kernel_rfl) (fun _ _ _ h => h) (Or.inl ⟨by rfl, ?_⟩) (by assumption) ?_
                    case refine_2 => ((intro w hSw); (try dsimp only at hSw); go_simp; (try with_reducible rfl))
                    try simp only [Act.put, List.setIfInBounds_toArray, List.set_cons_zero, List.set_cons_succ]
                    refine take_dst (i := 9) 85 (v := .bool false) rfl rfl (by kernel_rfl) (by kernel_rfl) (by kernel_rfl) (fun _ _ _ h => h) (Or.inl ⟨by rfl, ?_⟩) (by assumption) ?_
                    case refine_1 => ((intro w hSw); (try dsimp only at hSw); go_simp; (try first | omega | (simp; omega) | simp [hz1]))
                    try simp only [Act.put, List.setIfInBounds_toArray, List.set_cons_zero, List.set_cons_succ]
                    refine take_dst (i := 10) 86 (v := ?_) rfl rfl (by kernel_rfl) (by kernel_rfl) (by kernel_rfl) (fun _ _ _ h => h) (Or.inl ⟨by rfl, ?_⟩) (by assumption) ?_
                    case refine_2 => ((intro w hSw); (try dsimp only at hSw); go_simp; (try with_reducible rfl))
                    try simp only [Act.put, List.setIfInBounds_toArray, List.set_cons_zero, List.set_cons_succ]
                    refine take_dst (i := 11) 87 (v := undef) rfl rfl (by kernel_rfl) (by kernel_rfl) (by kernel_rfl) (fun _ _ _ h => h) (Or.inr ⟨by rfl, rfl⟩) (by assumption) ?_
                    try simp only [Act.put, List.setIfInBounds_toArray, List.set_cons_zero, List.set_cons_succ]
                    refine take_dst (i := 12) 88 (v := undef) rfl rfl (by kernel_rfl) (by kernel_rfl) (by kernel_rfl) (fun _ _ _ h => h) (Or.inr ⟨by rfl, rfl⟩) (by assumption) ?_
                    try simp only [Act.put, List.setIfInBounds_toArray, List.set_cons_zero, List.set_cons_succ]
                    refine take_dst (i := 13) 89 (v := undef) rfl rfl (by kernel_rfl) (by kernel_rfl) (by kernel_rfl) (fun _ _ _ h => h) (Or.inr ⟨by rfl, rfl⟩) (by assumption) ?_
                    try simp only [Act.put, List.setIfInBounds_toArray, List.set_cons_zero, List.set_cons_succ]
                    refine take_dst (i := 14) 90 (v := undef) rfl rfl (by kernel_rfl) (by kernel_rfl) (by kernel_rfl) (fun _ _ _ h => h) (Or.inr ⟨by rfl, rfl⟩) (by assumption) ?_
                    try simp only [Act.put, List.setIfInBounds_toArray, List.set_cons_zero, List.set_cons_succ]
                    refine take_dst (i := 15) 91 (v := undef) rfl rfl (by kernel_rfl) (by kernel_rfl) (by kernel_rfl) (fun _ _ _ h => h) (Or.inr ⟨by rfl, rfl⟩) (by assumption) ?_
                    try simp only [Act.put, List.setIfInBounds_toArray, List.set_cons_zero, List.set_cons_succ]
                    refine take_dst (i := 16) 92 (v := undef) rfl rfl (by kernel_rfl) (by kernel_rfl) (by kernel_rfl) (fun _ _ _ h => h) (Or.inr ⟨by rfl, rfl⟩) (by assumption) ?_
                    try simp only [Act.put, List.setIfInBounds_toArray, List.set_cons_zero, List.set_cons_succ]
                    refine take_dst (i := 17) 93 (v := undef) rfl rfl (by kernel_rfl) (by kernel_rfl) (by kernel_rfl) (fun _ _ _ h => h) (Or.inr ⟨by rfl, rfl⟩) (by assumption) ?_
                    try simp only [Act.put, List.setIfInBounds_toArray, List.set_cons_zero, List.set_cons_succ]
                    refine take_dst (i := 18) 94 (v := undef) rfl rfl (by kernel_rfl) (by kernel_rfl) (by kernel_rfl) (fun _ _ _ h => h) (Or.inr ⟨by rfl, rfl⟩) (by assumption) ?_
                    try simp only [Act.put, List.setIfInBounds_toArray, List.set_cons_zero, List.set_cons_succ]
                    refine take_dst (i := 19) 95 (v := undef) rfl rfl (by kernel_rfl) (by kernel_rfl) (by kernel_rfl) (fun _ _ _ h => h) (Or.inr ⟨by rfl, rfl⟩) (by assumption) ?_
                    try simp only [Act.put, List.setIfInBounds_toArray, List.set_cons_zero, List.set_cons_succ]
                    refine take_dst (i := 20) 96 (v := undef) rfl rfl (by kernel_rfl) (by kernel_rfl) (by kernel_rfl) (fun _ _ _ h => h) (Or.inr ⟨by rfl, rfl⟩) (by assumption) ?_
                    try simp only [Act.put, List.setIfInBounds_toArray, List.set_cons_zero, List.set_cons_succ]
                    refine take_dst (i := 21) 97 (v := undef) rfl rfl (by kernel_rfl) (by kernel_rfl) (by kernel_rfl) (fun _ _ _ h => h) (Or.inr ⟨by rfl, rfl⟩) (by assumption) ?_
                    try simp only [Act.put, List.setIfInBounds_toArray, List.set_cons_zero, List.set_cons_succ]
                    refine take_dst (i := 22) 98 (v := undef) rfl rfl (by kernel_rfl) (by kernel_rfl) (by kernel_rfl) (fun _ _ _ h => h) (Or.inr ⟨by rfl, rfl⟩) (by assumption) ?_
                    try simp only [Act.put, List.setIfInBounds_toArray, List.set_cons_zero, List.set_cons_succ]
                    refine take_dst (i := 23) 99 (v := ?_) rfl rfl (by kernel_rfl) (by kernel_rfl) (by kernel_rfl) (fun _ _ _ h => h) (Or.inl ⟨by rfl, ?_⟩) (by assumption) ?_
                    case refine_2 => ((intro w hSw); (try dsimp only at hSw); go_simp; (try with_reducible rfl))
                    try simp only [Act.put, List.setIfInBounds_toArray, List.set_cons_zero, List.set_cons_succ]
                    refine take_dst (i := 24) 100 (v := ?_) rfl rfl (by kernel_rfl) (by kernel_rfl) (by kernel_rfl) (fun _ _ _ h => h) (Or.inl ⟨by rfl, ?_⟩) (by assumption) ?_
                    case refine_2 => ((intro w hSw); (try dsimp only at hSw); go_simp; (try with_reducible rfl))
                    try simp only [Act.put, List.setIfInBounds_toArray, List.set_cons_zero, List.set_cons_succ]
                    refine wpAnyH_done (by kernel_rfl) ?_ _
                    have hS := hHeld
                    have HB5 := hid (HB.out.trans (hS.mono HB.out.size))
                    have HX5 := hid ((hS.block w.heap.size hzr).trans HX.out)
                    clear hS
                    go_wp2
                    go_roundw
                    case rel => exact ⟨i + 1, by omega, by go_num, HB5.out, HX5.out, by unfold risB; rw [allr_succ]; show (risB ps i && risGood ps i) = true; rw [HALL.out, HGB.out]; rfl⟩
                    case measure => simp [RowKit.intOf]; omega
                  · obtain ⟨j, rfl⟩ : ∃ j, i = j + 1 := ⟨i - 1, by omega⟩
                    clear hi0
                    have hjl : j < ps.length := by omega
                    have hc0 := HKR.out.2 j hjl
                    rw [show (⟨ps[j].toArray⟩ : ByteArray) = bytesOf ps[j] from rfl] at hc0
                    have HGD2 : Hid (risGood ps (j + 1) = decide (0 < j + 1 → ps[j] < x)) := hid (by rw [HGD.out, Nat.add_sub_cancel, txt_at hjl])
                    have b3 : (0 : Int) ≤ (j : Int) := by omega
                    have b4 : (j : Int) < (ps.length : Int) := by omega
                    have b5 : (0 : Int) ≤ (j : Int) + 1 := by omega
                    have b6 : (j : Int) + 1 < (ps.length : Int) := by omega
                    have b7 : (0 : Int) < (j : Int) + 1 := by omega
                    have b8 : IntKind.i64.wrap ((j : Int) + 1 - 1) = (j : Int) := by rw [IntKind.wrap_i64]; omega
                    have b9 : IntKind.i64.wrap (j : Int) = (j : Int) := by rw [IntKind.wrap_i64]; omega
                    clear HGD
                    generalize ps[j] = y at *
                    by_cases hyx : y < x
                    · have hle := leq_no hyx
                      have HGB : Hid (risGood ps (j + 1) = true) := hid (by rw [HGD2.out]; exact decide_eq_true (fun _ => hyx))
                      clear HGD2 hyx HKR
                      generalize bytesOf x = X at *
                      generalize bytesOf y = Y at *
                      have j2 : ∀ W : World, Below wr.heap.size wr W → W.cell? ⟨w.heap.size, 2, none⟩ = some (.slice (some ⟨g, 0, none⟩) ps.length d) := fun W hW => (hW.cell (p := ⟨w.heap.size, 2, none⟩) hzr).trans k2
                      have jx : ∀ W : World, Below wr.heap.size wr W → W.cell? ⟨g, j + 1, none⟩ = some (.string X) := fun W hW => (hW.cell (p := ⟨g, j + 1, none⟩) hgw).trans hc1
                      have jy : ∀ W : World, Below wr.heap.size wr W → W.cell? ⟨g, j, none⟩ = some (.string Y) := fun W hW => (hW.cell (p := ⟨g, j, none⟩) hgw).trans hc0
                      go_wp2
                      first | (go_region_held3 (fun w' => Below wr.heap.size wr w') (first | with_reducible assumption | exact Below.drew (Below.refl _ _) | exact below_hop (by assumption) (by simp) (by assumption)) (first | (go_at_call 88; refine (KC.out _).mono ?_; rintro e x1 ⟨rfl, hy1⟩) | (fail "no arm"))) | (fail "held")
                      rename_i hS
                      have HB5 := hid (HB.out.trans (hS.mono HB.out.size))
                      have HX5 := hid ((hS.block w.heap.size hzr).trans HX.out)
                      clear hS
                      go_wp2
                      go_roundw
                      case rel => exact ⟨j + 1 + 1, by omega, by go_num, HB5.out, HX5.out, by unfold risB; rw [allr_succ]; show (risB ps (j + 1) && risGood ps (j + 1)) = true; rw [HALL.out, HGB.out]; rfl⟩
                      case measure => simp [RowKit.intOf]; omega
                    · have hle := leq_yes hyx
                      have HGB : Hid (risGood ps (j + 1) = false) := hid (by rw [HGD2.out]; exact decide_eq_false (fun h => hyx (h (Nat.succ_pos j))))
                      clear HGD2 hyx HKR
                      generalize bytesOf x = X at *
                      generalize bytesOf y = Y at *
                      have j2 : ∀ W : World, Below wr.heap.size wr W → W.cell? ⟨w.heap.size, 2, none⟩ = some (.slice (some ⟨g, 0, none⟩) ps.length d) := fun W hW => (hW.cell (p := ⟨w.heap.size, 2, none⟩) hzr).trans k2
                      have jx : ∀ W : World, Below wr.heap.size wr W → W.cell? ⟨g, j + 1, none⟩ = some (.string X) := fun W hW => (hW.cell (p := ⟨g, j + 1, none⟩) hgw).trans hc1
                      have jy : ∀ W : World, Below wr.heap.size wr W → W.cell? ⟨g, j, none⟩ = some (.string Y) := fun W hW => (hW.cell (p := ⟨g, j, none⟩) hgw).trans hc0
                      go_wp2
                      first | (go_region_held3 (fun w' => Below wr.heap.size wr w') (first | with_reducible assumption | exact Below.drew (Below.refl _ _) | exact below_hop (by assumption) (by simp) (by assumption)) (first | (go_at_call 88; refine (KC.out _).mono ?_; rintro e x1 ⟨rfl, hy1⟩) | (fail "no arm"))) | (fail "held")
                      rename_i hS
                      have HB5 := hid (HB.out.trans (hS.mono HB.out.size))
                      have HX5 := hid ((hS.block w.heap.size hzr).trans HX.out)
                      clear hS
                      go_wp2
                      go_ret
                      exact ⟨by rw [HPB.out, show risB ps ps.length = false from allr_no HGB.out hlt]; rfl, HB5.out⟩
              · have hie : i = ps.length := by omega
                subst hie
                go_wp2
                go_ret
                exact ⟨by rw [HPB.out, HALL.out]; rfl, HB.out⟩
      · have d3 : (ps.length : Int) > 60 := by omega
        rw [decide_eq_false h3] at HPB
        clear h3
        go_enter Tryd.func121, Tryd.ntmps121
        go_wp2_with (go_at_call 133; rw [← HW0.out]; refine (CI.out _).mono ?_; rintro e wq ⟨rfl, eq⟩; rw [eq]; clear eq wq; refine Hid.out ?_)
        refine hid ?_
        go_wp2
        go_ret
        exact ⟨by rw [HPB.out]; rfl, HB0.out⟩
    · have d2 : (es.length : Int) > 60 := by omega
      rw [decide_eq_false h2] at HPB
      clear h2
      go_enter Tryd.func121, Tryd.ntmps121
      go_wp2_with (go_at_call 133; rw [← HW0.out]; refine (CI.out _).mono ?_; rintro e wq ⟨rfl, eq⟩; rw [eq]; clear eq wq; refine Hid.out ?_)
      refine hid ?_
      go_wp2
      go_ret
      exact ⟨by rw [HPB.out]; rfl, HB0.out⟩
end Go.Proofs.YtedbhlihdfaaaaaDoor
