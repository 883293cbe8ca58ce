/- TableOk, the specification's. -/
import Derived.Test.YtainpghedbhepaaDoorTabPlain
import Derived.Deep.QuietTactic
import Derived.BigQuiet
namespace Go.Proofs.YtainpghedbhepaaDoor
open Go.RowKit
open Go.Lib (hid)

theorem below_drewN2 {B : Nat} {a w : World} (h : Below B a w) (n : Nat) : Below B a (w.drewN n) := ⟨h.os, h.tape, h.output, h.size, h.block⟩

set_option maxRecDepth 20000 in
set_option maxHeartbeats 4000000 in
theorem tab_spec (key : ByteArray) (now next : Int) (es : List NonceD) (hn : es.length ≤ 1048576) (a : Value) (w : World) (ha : FRow encNonce 2 w a es) :
    Calls Tryd.prog 23 #[.agg #[.string key, .int .i64 now, .int .i64 next, a]] w fun e w' => e = .returned (.bool (tabB key.data.toList now next es)) ∧ Below w.heap.size w w' := by
  have HA := hid ha
  obtain ⟨p, c, rfl, _, hrest⟩ := ha
  clear hrest
  obtain ⟨W0, hW0⟩ : ∃ W0, W0 = w.alloc (.cells #[.string key, .int .i64 now, .int .i64 next, .slice p es.length c] 52) := ⟨_, rfl⟩
  have HB0 : Hid (Below w.heap.size w W0) := hid (by rw [hW0]; exact (Below.refl _ _).alloc (Nat.le_refl _) _)
  have HV0 : Hid (W0.heap[w.heap.size]? = some (.cells #[.string key, .int .i64 now, .int .i64 next, .slice p es.length c] 52)) := hid (by rw [hW0]; exact heap_alloc_new _ _)
  have hz0 : w.heap.size < W0.heap.size := by rw [hW0]; simp
  have HW0 := hid hW0
  have HTB : Hid (tabB key.data.toList now next es = (secretB key.data.toList && (decide (0 ≤ now ∧ now ≤ 1000000000) && (decide (0 ≤ next ∧ next ≤ 1000000000) && (decide (es.length ≤ 8) && ncAll now next es es.length))))) := hid rfl
  have CS := hid (fun W => ssecret_calls key W)
  have C1 := hid (fun W => in_any now 0 1000000000 W)
  have C2 := hid (fun W => in_any next 0 1000000000 W)
  obtain ⟨k0, k1, k2, k3⟩ := four_cells HV0.out
  generalize tabB key.data.toList now next es = r at *
  clear hW0
  cases hs : secretB key.data.toList with
  | false =>
    have HS := hid hs
    rw [hs] at HTB
    clear hs
    go_enter Tryd.func23, Tryd.ntmps23
    go_wp2_with (go_at_call 54; rw [← HW0.out]; refine (CS.out _).mono ?_; rintro e wq ⟨rfl, eq⟩; rw [eq, HS.out]; clear eq wq; refine Hid.out ?_)
    refine hid ?_
    go_wp2
    go_ret
    exact ⟨by rw [HTB.out]; rfl, HB0.out⟩
  | true =>
    have HS := hid hs
    rw [hs] at HTB
    clear hs
    cases hd1 : decide (0 ≤ now ∧ now ≤ 1000000000) with
    | false =>
      have HD1 := hid hd1
      rw [hd1] at HTB
      clear hd1
      go_enter Tryd.func23, Tryd.ntmps23
      go_wp2_with (go_at_call 54; rw [← HW0.out]; refine (CS.out _).mono ?_; rintro e wq ⟨rfl, eq⟩; rw [eq, HS.out]; clear eq wq; refine Hid.out ?_)
      refine hid ?_
      go_wp2_with (go_at_call 35; refine (C1.out _).mono ?_; rintro e wq ⟨rfl, eq⟩; rw [eq, HD1.out]; clear eq wq; refine Hid.out ?_)
      refine hid ?_
      go_wp2
      go_ret
      exact ⟨by rw [HTB.out]; rfl, HB0.out⟩
    | true =>
      have hnow := of_decide_eq_true hd1
      have HD1 := hid hd1
      rw [hd1] at HTB
      clear hd1
      cases hd2 : decide (0 ≤ next ∧ next ≤ 1000000000) with
      | false =>
        have HD2 := hid hd2
        rw [hd2] at HTB
        clear hd2 hnow
        go_enter Tryd.func23, Tryd.ntmps23
        go_wp2_with (go_at_call 54; rw [← HW0.out]; refine (CS.out _).mono ?_; rintro e wq ⟨rfl, eq⟩; rw [eq, HS.out]; clear eq wq; refine Hid.out ?_)
        refine hid ?_
        go_wp2_with (go_at_call 35; refine (C1.out _).mono ?_; rintro e wq ⟨rfl, eq⟩; rw [eq, HD1.out]; clear eq wq; refine Hid.out ?_)
        refine hid ?_
        go_wp2_with (go_at_call 35; refine (C2.out _).mono ?_; rintro e wq ⟨rfl, eq⟩; rw [eq, HD2.out]; clear eq wq; refine Hid.out ?_)
        refine hid ?_
        go_wp2
        go_ret
        exact ⟨by rw [HTB.out]; rfl, HB0.out⟩
      | true =>
        have hnext := of_decide_eq_true hd2
        have HD2 := hid hd2
        rw [hd2] at HTB
        clear hd2
        by_cases h8 : es.length ≤ 8
        · have d8 : ¬ (es.length : Int) > 8 := by omega
          rw [decide_eq_true h8] at HTB
          obtain ⟨hnow0, hnow1⟩ := hnow
          obtain ⟨hnext0, hnext1⟩ := hnext
          go_enter Tryd.func23, Tryd.ntmps23
          go_wp2_with (go_at_call 54; rw [← HW0.out]; refine (CS.out _).mono ?_; rintro e wq ⟨rfl, eq⟩; rw [eq, HS.out]; clear eq wq; refine Hid.out ?_)
          refine hid ?_
          go_wp2_with (go_at_call 35; refine (C1.out _).mono ?_; rintro e wq ⟨rfl, eq⟩; rw [eq, HD1.out]; clear eq wq; refine Hid.out ?_)
          refine hid ?_
          go_wp2_with (go_at_call 35; refine (C2.out _).mono ?_; rintro e wq ⟨rfl, eq⟩; rw [eq, HD2.out]; clear eq wq; refine Hid.out ?_)
          refine hid ?_
          go_wp2
          go_loopw [3] (fun iv wr => ∃ i : Nat, i ≤ es.length ∧ iv = .int .i64 i ∧ Below w.heap.size w wr ∧ wr.heap[w.heap.size]? = some (.cells #[.string key, .int .i64 now, .int .i64 next, .slice p es.length c] 52) ∧ ncAll now next es i = true) (fun iv _ => es.length - (RowKit.intOf iv).toNat)
          case atStart => exact ⟨0, Nat.zero_le _, rfl, HB0.out, HV0.out, rfl⟩
          case round =>
            clear k0 k1 k2 k3
            obtain ⟨i, hi, rfl, hbel, hbox, hall⟩ := hrel
            have HB := hid hbel
            have HX := hid hbox
            have HALL := hid hall
            obtain ⟨k0, k1, k2, k3⟩ := four_cells hbox
            have hzr : w.heap.size < wr.heap.size := (Array.getElem?_eq_some_iff.1 hbox).1
            by_cases hlt : i < es.length
            · have hne : es ≠ [] := fun h => by rw [h] at hlt; cases hlt
              obtain ⟨p', c', hv, _, hp⟩ := HA.out
              obtain ⟨rfl, rfl⟩ : p = p' ∧ c = c' := by injection hv with h1 h2 h3; exact ⟨h1, by omega⟩
              obtain ⟨g, o, rfl, hg, hc⟩ := hp hne
              clear hv hp
              have b1 : (0 : Int) ≤ (i : Int) := by omega
              have b2 : (i : Int) < (es.length : Int) := by omega
              have hgw : g < wr.heap.size := Nat.lt_of_lt_of_le hg hbel.size
              have l0 : wr.cell? ⟨g, o + i * 2, none⟩ = some (.int .i64 es[i].x0) := (hbel.cell (p := ⟨g, o + i * 2, none⟩) hg).trans (hc i hlt 0 (by decide))
              have l1 : wr.cell? ⟨g, o + i * 2 + 1, none⟩ = some (.int .i64 es[i].x1) := (hbel.cell (p := ⟨g, o + i * 2 + 1, none⟩) hg).trans (hc i hlt 1 (by decide))
              have HGD : Hid (ncGood now next es i = decide ((0 ≤ es[i].x0 ∧ es[i].x0 ≤ next - 1) ∧ (0 ≤ es[i].x1 ∧ es[i].x1 ≤ now) ∧ (0 < i → (es.getD (i - 1) zNonce).x0 < es[i].x0 ∧ (es.getD (i - 1) zNonce).x1 ≤ es[i].x1))) := hid (by unfold ncGood; rw [nc_at hlt])
              have HPV := hid (fun (j : Nat) (hj : j < es.length) => (show wr.cell? ⟨g, o + j * 2, none⟩ = some (.int .i64 es[j].x0) ∧ wr.cell? ⟨g, o + j * 2 + 1, none⟩ = some (.int .i64 es[j].x1) from ⟨(hbel.cell (p := ⟨g, o + j * 2, none⟩) hg).trans (hc j hj 0 (by decide)), (hbel.cell (p := ⟨g, o + j * 2 + 1, none⟩) hg).trans (hc j hj 1 (by decide))⟩))
              clear hc hbel hbox hall
              generalize hei : es[i] = ei at *
              obtain ⟨x, y⟩ := ei
              clear hei
              dsimp only at *
              have CX := hid (fun W => in_any x 0 (next - 1) W)
              have CY := hid (fun W => in_any y 0 now W)
              have HBX : Hid (Below w.heap.size w (wr.alloc (.cells #[.int .i64 x, .int .i64 y] 90))) := hid (HB.out.alloc HB.out.size _)
              have HXX : Hid ((wr.alloc (.cells #[.int .i64 x, .int .i64 y] 90)).heap[w.heap.size]? = some (.cells #[.string key, .int .i64 now, .int .i64 next, .slice (some ⟨g, o, none⟩) es.length c] 52)) := hid ((((Below.refl wr.heap.size wr).alloc (Nat.le_refl _) _).block _ hzr).trans HX.out)
              by_cases t1 : 0 ≤ x ∧ x ≤ next - 1
              · rw [decide_eq_true t1] at CX
                by_cases t2 : 0 ≤ y ∧ y ≤ now
                · rw [decide_eq_true t2] at CY
                  cases i with
                  | zero =>
                    have l0' : wr.cell? ⟨g, o, none⟩ = some (.int .i64 x) := by simpa using l0
                    have l1' : wr.cell? ⟨g, o + 1, none⟩ = some (.int .i64 y) := by simpa using l1
                    have HGB : Hid (ncGood now next es 0 = true) := hid (by rw [HGD.out]; exact decide_eq_true ⟨t1, t2, fun h => absurd h (Nat.lt_irrefl _)⟩)
                    clear t1 t2 HPV HGD
                    go_wp2
                    go_quiet ((first | (go_at_call_of 35 (Value.int .i64 x); exact Calls.quiet_of_same (CX.out _)) | (go_at_call_of 35 (Value.int .i64 y); exact Calls.quiet_of_same (CY.out _))))
                    have hbd := below_drewN2 HBX.out nq
                    go_wp2
                    go_roundw
                    case rel => exact ⟨0 + 1, by omega, by go_num, hbd, HXX.out, by rw [ncAll_succ, HALL.out, HGB.out]; rfl⟩
                    case measure => simp [RowKit.intOf]; omega
                  | succ j =>
                    have hjl : j < es.length := by omega
                    obtain ⟨m0, m1⟩ := HPV.out j hjl
                    have HGD2 : Hid (ncGood now next es (j + 1) = decide ((0 ≤ x ∧ x ≤ next - 1) ∧ (0 ≤ y ∧ y ≤ now) ∧ (0 < j + 1 → es[j].x0 < x ∧ es[j].x1 ≤ y))) := hid (by rw [HGD.out, Nat.add_sub_cancel, nc_at hjl])
                    clear HPV HGD
                    generalize hej : es[j] = ej at *
                    obtain ⟨u, v⟩ := ej
                    clear hej
                    dsimp only at *
                    have b3 : (0 : Int) ≤ (j : Int) := by omega
                    have b4 : (j : Int) < (es.length : Int) := by omega
                    by_cases t3 : x ≤ u
                    · have HGB : Hid (ncGood now next es (j + 1) = false) := hid (by rw [HGD2.out]; exact decide_eq_false (by omega))
                      clear t1 t2 HGD2
                      go_wp2
                      go_quiet ((first | (go_at_call_of 35 (Value.int .i64 x); exact Calls.quiet_of_same (CX.out _)) | (go_at_call_of 35 (Value.int .i64 y); exact Calls.quiet_of_same (CY.out _))))
                      have hbd := below_drewN2 HBX.out nq
                      clear HXX HBX
                      go_wp2
                      go_ret
                      exact ⟨by rw [HTB.out, ncAll_no HGB.out hlt]; rfl, hbd⟩
                    · have hd3 : decide (x ≤ u) = false := decide_eq_false t3
                      have HT3 := hid t3
                      clear t3
                      by_cases t4 : y < v
                      · have t3 := HT3.out
                        have HGB : Hid (ncGood now next es (j + 1) = false) := hid (by rw [HGD2.out]; exact decide_eq_false (by omega))
                        clear t1 t2 HGD2 t3
                        go_wp2
                        go_quiet ((first | (go_at_call_of 35 (Value.int .i64 x); exact Calls.quiet_of_same (CX.out _)) | (go_at_call_of 35 (Value.int .i64 y); exact Calls.quiet_of_same (CY.out _))))
                        have hbd := below_drewN2 HBX.out nq
                        clear HXX HBX
                        go_wp2
                        go_ret
                        exact ⟨by rw [HTB.out, ncAll_no HGB.out hlt]; rfl, hbd⟩
                      · have hd4 : decide (y < v) = false := decide_eq_false t4
                        have t3 := HT3.out
                        have HGB : Hid (ncGood now next es (j + 1) = true) := hid (by rw [HGD2.out]; exact decide_eq_true ⟨t1, t2, fun _ => ⟨by omega, by omega⟩⟩)
                        clear t1 t2 HGD2 t3 t4
                        go_wp2
                        go_quiet ((first | (go_at_call_of 35 (Value.int .i64 x); exact Calls.quiet_of_same (CX.out _)) | (go_at_call_of 35 (Value.int .i64 y); exact Calls.quiet_of_same (CY.out _))))
                        have hbd := below_drewN2 HBX.out nq
                        go_wp2
                        go_roundw
                        case rel => exact ⟨j + 1 + 1, by omega, by go_num, hbd, HXX.out, by rw [ncAll_succ, HALL.out, HGB.out]; rfl⟩
                        case measure => simp [RowKit.intOf]; omega
                · rw [decide_eq_false t2] at CY
                  have HGB : Hid (ncGood now next es i = false) := hid (by rw [HGD.out]; exact decide_eq_false (fun h => t2 h.2.1))
                  clear t1 t2 HGD HPV
                  go_wp2
                  go_quiet ((first | (go_at_call_of 35 (Value.int .i64 x); exact Calls.quiet_of_same (CX.out _)) | (go_at_call_of 35 (Value.int .i64 y); exact Calls.quiet_of_same (CY.out _))))
                  have hbd := below_drewN2 HBX.out nq
                  clear HXX HBX
                  go_wp2
                  go_ret
                  exact ⟨by rw [HTB.out, ncAll_no HGB.out hlt]; rfl, hbd⟩
              · rw [decide_eq_false t1] at CX
                have HGB : Hid (ncGood now next es i = false) := hid (by rw [HGD.out]; exact decide_eq_false (fun h => t1 h.1))
                clear t1 HGD HPV
                go_wp2
                go_quiet ((first | (go_at_call_of 35 (Value.int .i64 x); exact Calls.quiet_of_same (CX.out _)) | (go_at_call_of 35 (Value.int .i64 y); exact Calls.quiet_of_same (CY.out _))))
                have hbd := below_drewN2 HBX.out nq
                clear HXX HBX
                go_wp2
                go_ret
                exact ⟨by rw [HTB.out, ncAll_no HGB.out hlt]; rfl, hbd⟩
            · have hie : i = es.length := by omega
              subst hie
              go_wp2
              go_ret
              exact ⟨by rw [HTB.out, HALL.out]; rfl, HB.out⟩
        · have d8 : (es.length : Int) > 8 := by omega
          rw [decide_eq_false h8] at HTB
          clear hnow hnext h8
          go_enter Tryd.func23, Tryd.ntmps23
          go_wp2_with (go_at_call 54; rw [← HW0.out]; refine (CS.out _).mono ?_; rintro e wq ⟨rfl, eq⟩; rw [eq, HS.out]; clear eq wq; refine Hid.out ?_)
          refine hid ?_
          go_wp2_with (go_at_call 35; refine (C1.out _).mono ?_; rintro e wq ⟨rfl, eq⟩; rw [eq, HD1.out]; clear eq wq; refine Hid.out ?_)
          refine hid ?_
          go_wp2_with (go_at_call 35; refine (C2.out _).mono ?_; rintro e wq ⟨rfl, eq⟩; rw [eq, HD2.out]; clear eq wq; refine Hid.out ?_)
          refine hid ?_
          go_wp2
          go_ret
          exact ⟨by rw [HTB.out]; rfl, HB0.out⟩
end Go.Proofs.YtainpghedbhepaaDoor
