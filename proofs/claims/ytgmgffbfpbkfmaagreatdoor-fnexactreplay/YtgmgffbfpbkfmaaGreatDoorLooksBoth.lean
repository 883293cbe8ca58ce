/- Looks, the specification's and the program's. -/
import Derived.Test.YtgmgffbfpbkfmaaGreatDoorLooksPlain
import Derived.Test.YtgmgffbfpbkfmaaGreatDoorNumFaceB
import Derived.Test.YtgmgffbfpbkfmaaGreatDoorFaceParts
import Derived.Deep.DeepCutAuto
import Derived.Deep.RegionHeld3
import Derived.OwnWalk
namespace Go.Proofs.YtgmgffbfpbkfmaaGreatDoor
open Go.RowKit
open Go.Lib (hid)

theorem nof_spec (s : ByteArray) (w : World) : Calls Tryz.prog 153 #[.string s] w fun e w' => e = .returned (.int .i64 (numOf s.data.toList)) ∧ Below w.heap.size w w' := by
  rcases numOf_cases s.data.toList with ⟨k, hk, hl, hv⟩ | ⟨hv, hn⟩
  · rw [hv]; exact Num.specNumberOf_yes k hk s hl w
  · rw [hv]; exact Num.specNumberOf_no s hn w

theorem nof_impl (s : ByteArray) (hs : s.size ≤ 1048576) (w : World) (hL : Num.Laid w) : Calls Tryz.prog 188 #[.string s] w fun e w' => e = .returned (.int .i64 (numOf s.data.toList)) ∧ Below w.heap.size w w' := by
  rcases numOf_cases s.data.toList with ⟨k, hk, hl, hv⟩ | ⟨hv, hn⟩
  · rw [hv]; exact Num.implNumberOf_yes k hk s hl w hL
  · rw [hv]; exact Num.implNumberOf_no s hs hn w hL

def LooksPost (s : ByteArray) (w : World) (e : Ending) (w' : World) : Prop :=
  e = .returned (.tuple #[.int .i64 (looksO s).2.1, .agg #[.string (bytesOf (looksO s).2.2.1), .int .i64 (looksO s).2.2.2], .bool (looksO s).1]) ∧ Below w.heap.size w w'

theorem looks_zero {s : ByteArray} (h : looksO s = (false, 0, [], 0)) : Ending.returned (.tuple #[.int .i64 0, .agg #[.string ⟨#[]⟩, .int .i64 0], .bool false]) = .returned (.tuple #[.int .i64 (looksO s).2.1, .agg #[.string (bytesOf (looksO s).2.2.1), .int .i64 (looksO s).2.2.2], .bool (looksO s).1]) := by rw [h]; rfl

theorem looks_one {s : ByteArray} {l v : Int} {b : List UInt8} (h : looksO s = (true, l, b, v)) : Ending.returned (.tuple #[.int .i64 l, .agg #[.string (bytesOf b), .int .i64 v], .bool true]) = .returned (.tuple #[.int .i64 (looksO s).2.1, .agg #[.string (bytesOf (looksO s).2.2.1), .int .i64 (looksO s).2.2.2], .bool (looksO s).1]) := by rw [h]

theorem parts_short {s : ByteArray} {x : List UInt8} (h : x ∈ (nodeOf s).2) : x.length ≤ 4000 := by
  obtain ⟨k, ps, hn⟩ : ∃ k ps, nodeOf s = (k, ps) := ⟨_, _, rfl⟩
  by_cases h3 : 3 ≤ k
  · obtain ⟨ht, _⟩ := node_text hn h3
    rw [hn] at h
    have h0 : (nodeOf s).1 ≠ 0 := by rw [hn]; show k ≠ 0; omega
    have h1 := glue_mem' (wordOf k :: ps) x (List.mem_cons_of_mem _ h)
    have h2 : (tmWith k ps).length = (glue (wordOf k :: ps)).length + 2 := by simp [tmWith]
    have h4 := node_size h0
    have h5 : s.data.toList.length = s.size := by simp
    rw [ht] at h5
    omega
  · exfalso
    have hz : (nodeOf s).2 = [] := by
      unfold nodeOf at hn ⊢
      by_cases h4 : s.size ≤ 4000
      · rw [if_pos h4] at hn ⊢
        by_cases h0 : k = 0
        · have e : kindS 40 s.data.toList = if nameB s.data.toList then (1, []) else if secretB s.data.toList then (2, []) else brk (fun x => (kindS 39 x).1) s.data.toList := rfl
          rw [e] at hn ⊢
          split
          · rfl
          · split
            · rfl
            · rename_i g1 g2
              rw [if_neg g1, if_neg g2] at hn
              exact brk_none' (by rw [hn]; exact h0)
        · exact kindS_none_parts (d := 40) (by rw [hn]; show k = 1 ∨ k = 2; omega)
      · rw [if_neg h4]
    rw [hz] at h
    cases h

theorem two_put {W : World} {b : Nat} {x0 x1 : Value} {t : TypeId} (h : W.heap[b]? = some (.cells #[x0, x1] t)) (v0 v1 : Value) : ((W.setCell ⟨b, 0, none⟩ v0).setCell ⟨b, 1, none⟩ v1).heap[b]? = some (.cells #[v0, v1] t) :=
  heap_setCell_same _ b 1 _ _ v1 (heap_setCell_same W b 0 _ _ v0 h)

theorem two_below {B b : Nat} {w W : World} (h : Below B w W) (hb : B ≤ b) (x0 x1 : Value) : Below B w ((W.setCell ⟨b, 0, none⟩ x0).setCell ⟨b, 1, none⟩ x1) := (h.setCell (p := ⟨b, 0, none⟩) hb _).setCell (p := ⟨b, 1, none⟩) hb _

theorem two_thaw {W : World} {b : Nat} {V : Array Value} {t : TypeId} (h : W.heap[b]? = some (.cells V t)) (o : Nat) : W.frozen? ⟨b, o, none⟩ = false := by simp [World.frozen?, h]

theorem below_on {B : Nat} {a b c : World} (h : Below B a b) (hB : B ≤ a.heap.size) (k : Below b.heap.size b c) : Below B a c := h.trans (k.mono (Nat.le_trans hB h.size))

theorem same_test (l : List UInt8) (s : ByteArray) : ((bytesOf l).toList == s.toList) = decide (l = s.data.toList) := by
  rw [Lib.toList_data, Lib.toList_data, bytesOf_list, Bool.eq_iff_iff, beq_iff_eq, decide_eq_true_iff]

set_option maxRecDepth 20000 in
set_option maxHeartbeats 4000000 in
theorem looks_spec (s : ByteArray) (hs : s.size ≤ 1048576) (w : World) :
    Calls Tryz.prog 91 #[.string s] w (LooksPost s w) := by
  unfold LooksPost
  have CP := hid (fun W => parts_spec s W hs)
  have CK := hid (fun W => kind_spec s W hs)
  clear hs
  obtain ⟨kk, ps, hnd⟩ : ∃ kk ps, nodeOf s = (kk, ps) := ⟨_, _, rfl⟩
  have HFEW := hid (looksO_few (s := s))
  have HTHR := hid (fun a b c h => looksO_three (s := s) (a := a) (b := b) (c := c) h)
  have HSH := hid (fun x h => parts_short (s := s) (x := x) h)
  have HKIND := hid (looksO_kind (s := s))
  rw [hnd] at CK HKIND
  dsimp only at CK HKIND
  rw [hnd] at CP HFEW HTHR HSH
  dsimp only at CP HFEW HTHR HSH
  clear hnd
  have HB0_0 : Hid (Below w.heap.size w w) := hid (Below.refl _ _)
  have hz0 : w.heap.size ≤ w.heap.size := Nat.le_refl _
  obtain ⟨w1, hw1⟩ : ∃ W, W = w.alloc (.cells #[.string ⟨#[]⟩, .int .i64 0] 66) := ⟨_, rfl⟩
  have hb1 : Below w.heap.size w w1 := by rw [hw1]; exact (Below.refl _ _).alloc (Nat.le_refl _) _
  have hz1 : w.heap.size < w1.heap.size := by rw [hw1]; simp
  have HVR_1 : Hid (w1.heap[w.heap.size]? = some (.cells #[.string ⟨#[]⟩, .int .i64 0] 66)) := hid (by rw [hw1]; exact heap_alloc_new _ _)
  have HW1 := hid hw1
  have HB0_1 := hid (HB0_0.out.trans (hb1.mono HB0_0.out.size))
  clear hw1 hb1
  by_cases h4 : kk = 4
  · subst h4
    by_cases h3 : ps.length = 3
    · obtain ⟨a, b, c, rfl⟩ : ∃ a b c, ps = [a, b, c] := by
        match ps, h3 with
        | [a, b, c], _ => exact ⟨a, b, c, rfl⟩
      have HO := hid (HTHR.out a b c rfl)
      have ha4 : (bytesOf a).size ≤ 1048576 := by rw [bytesOf_size]; have := HSH.out a (by simp); omega
      have hc4 : (bytesOf c).size ≤ 1048576 := by rw [bytesOf_size]; have := HSH.out c (by simp); omega
      have CNa := hid (fun W => nof_spec (bytesOf a) W)
      have CNc := hid (fun W => nof_spec (bytesOf c) W)
      have CM := hid (fun W => meas_spec (numOf a) (bytesOf b) (numOf c) W)
      rw [bytesOf_list] at CNa CNc
      unfold MadeOut at CM
      rw [bytesOf_list] at CM
      have HST := hid (same_test (measOut (numOf a) b (numOf c)).2 s)
      generalize numOf a = na at *
      generalize numOf c = nc at *
      generalize measOut na b nc = mo at *
      obtain ⟨ok, t⟩ := mo
      dsimp only at CM HST
      obtain ⟨xa, hxa⟩ : ∃ x, bytesOf a = x := ⟨_, rfl⟩
      rw [hxa] at CNa ha4
      have HXA := hid hxa
      obtain ⟨xc, hxc⟩ : ∃ x, bytesOf c = x := ⟨_, rfl⟩
      rw [hxc] at CNc hc4
      have HXC := hid hxc
      clear hxa hxc
      clear HFEW HTHR HSH HKIND
      go_enter Tryz.func91, Tryz.ntmps91
      go_wp2_with (go_at_call 152; rw [← HW1.out]; refine (CP.out _).mono ?_; rintro e w2 ⟨sv2, rfl, hb2, ho2⟩; refine Hid.out ?_)
      refine hid ?_
      have hz2 := hb2.size
      have HB0_2 := hid (HB0_1.out.trans (hb2.mono HB0_1.out.size))
      have HVR_2 := hid ((hb2.block _ (by omega)).trans HVR_1.out)
      clear HB0_1 HVR_1
      obtain ⟨pp, cc, rfl, hpp⟩ := texts_of ho2
      obtain ⟨g, rfl, hg, hcc⟩ := hpp (by simp)
      have HPA : Hid (w2.cell? ⟨g, 0, none⟩ = some (.string xa)) := hid (HXA.out ▸ hcc 0 (by simp))
      have HPB : Hid (w2.cell? ⟨g, 1, none⟩ = some (.string (bytesOf b))) := hid (hcc 1 (by simp))
      have HPC : Hid (w2.cell? ⟨g, 2, none⟩ = some (.string xc)) := hid (HXC.out ▸ hcc 2 (by simp))
      clear ho2 hpp hcc
      clear hb2
      go_wp2_with (go_at_call 88; refine (CK.out _).mono ?_; rintro e w3 ⟨rfl, hb3⟩; refine Hid.out ?_)
      refine hid ?_
      have hz3 := hb3.size
      have HB0_3 := hid (HB0_2.out.trans (hb3.mono HB0_2.out.size))
      have HVR_3 := hid ((hb3.block _ (by omega)).trans HVR_2.out)
      clear HB0_2 HVR_2
      have HPA := hid ((hb3.cell (p := ⟨g, 0, none⟩) (by show g < _; omega)).trans HPA.out)
      have HPB := hid ((hb3.cell (p := ⟨g, 1, none⟩) (by show g < _; omega)).trans HPB.out)
      have HPC := hid ((hb3.cell (p := ⟨g, 2, none⟩) (by show g < _; omega)).trans HPC.out)
      have pa0 := HPA.out
      clear hb3
      go_wp2_with (go_at_call 153; refine (CNa.out _).mono ?_; rintro e w4 ⟨rfl, hb4⟩; refine Hid.out ?_)
      refine hid ?_
      have hz4 := hb4.size
      have HB0_4 := hid (HB0_3.out.trans (hb4.mono HB0_3.out.size))
      have HVR_4 := hid ((hb4.block _ (by omega)).trans HVR_3.out)
      clear HB0_3 HVR_3
      have HPB := hid ((hb4.cell (p := ⟨g, 1, none⟩) (by show g < _; omega)).trans HPB.out)
      have HPC := hid ((hb4.cell (p := ⟨g, 2, none⟩) (by show g < _; omega)).trans HPC.out)
      clear pa0 hb4
      have hgl : g < w4.heap.size := by omega
      go_wp2_with (fail)
      go_cut [7] (fun pv wx => ∃ k, pv = .pointer (some ⟨k, 0, none⟩) ∧ w4.heap.size ≤ k ∧ k < wx.heap.size ∧ Hid (wx.heap[k]? = some (.cells #[.string (bytesOf b), .int .i64 nc] 66)) ∧ Hid (Below w4.heap.size w4 wx))
      case first =>
        have c1 : ∀ W : World, Below w4.heap.size w4 W → W.cell? ⟨g, 1, none⟩ = some (.string (bytesOf b)) := fun W hW => (hW.cell (p := ⟨g, 1, none⟩) hgl).trans HPB.out
        have c2 : ∀ W : World, Below w4.heap.size w4 W → W.cell? ⟨g, 2, none⟩ = some (.string xc) := fun W hW => (hW.cell (p := ⟨g, 2, none⟩) hgl).trans HPC.out
        go_region_held3 (fun w' => Below w4.heap.size w4 w') (first | with_reducible assumption | exact Below.drew (Below.refl _ _) | exact Below.alloc (Below.drew (Below.refl _ _)) (by simp) _ | exact hS2 | exact hS1 | exact Below.drew hS1 | exact Below.drew hS2 | exact Below.alloc hS2 hS2.size _ | exact Below.alloc hS1 hS1.size _ | exact two_below hS2 (Nat.le_refl _) _ _ | exact two_below hS2 hS1.size _ _ | exact two_below hS1 (Nat.le_refl _) _ _ | (fail "no")) ((go_at_call 153; refine (CNc.out _).mono ?_; rintro e x1 ⟨rfl, hy1⟩; have hS1 : Below w4.heap.size w4 x1 := (by first | exact below_on (Below.drew (Below.refl _ _)) (Nat.le_refl _) hy1 | exact below_on (Below.alloc (Below.drew (Below.refl _ _)) (by simp) _) (Nat.le_refl _) hy1); first | (have hbk : x1.heap[w4.heap.size]? = some (.cells #[.string ⟨#[]⟩, .int .i64 0] 66) := (hy1.block _ (by simp)).trans (heap_alloc_new _ _); have z0 := (cell_of_row _ _ 0 _ _ _ hbk).trans rfl; have z1 := (cell_of_row _ _ 1 _ _ _ hbk).trans rfl; have f0 := two_thaw hbk 0; have f1 := two_thaw hbk 1) | skip))
        all_goals
          go_wp2_with (fail)
          go_meet
          case rel => first | exact ⟨_, rfl, hS1.size, by simp, hid (heap_alloc_new _ _), hid (hS1.alloc hS1.size _)⟩ | exact ⟨_, rfl, Nat.le_refl _, by simp; have := hy1.size; simp at this; omega, hid (two_put hbk _ _), hid (two_below hS1 (Nat.le_refl _) _ _)⟩
      case rest =>
        obtain ⟨k, rfl, hk1, hk2, HKB, HBB⟩ := hcut
      
        have HBF := hid (HB0_4.out.trans (HBB.out.mono HB0_4.out.size))
        have HRR := hid ((HBB.out.block _ (by omega)).trans HVR_4.out)
        have y0 := (cell_of_row _ _ 0 _ _ _ HKB.out).trans rfl
        have y1 := (cell_of_row _ _ 1 _ _ _ HKB.out).trans rfl
        cases ok with
        | false =>
          have HZ : Hid (looksO s = (false, 0, [], 0)) := hid (HO.out.trans (if_neg (fun h => by cases h)))
          rw [if_neg (by decide)] at CM
          go_wp2_with (go_at_call 84; refine (CM.out _).mono ?_; rintro e wm ⟨rfl, hbm⟩; refine Hid.out ?_)
          refine hid ?_
          have HBM := hid (HBF.out.trans (hbm.mono HBF.out.size))
          have HRM := hid ((hbm.block _ (by omega)).trans HRR.out)
          have HKM := hid ((hbm.block _ (by omega)).trans HKB.out)
          clear hbm y0 y1
          have k_R_0 := (cell_of_row _ _ 0 _ _ _ HRM.out).trans rfl
          have k_R_1 := (cell_of_row _ _ 1 _ _ _ HRM.out).trans rfl
          have fz0 := two_thaw HRM.out 0
          have fz1 := two_thaw HRM.out 1
          go_wp2
          refine bodyPost_ret (v := .tuple #[.int .i64 0, .agg #[.string ⟨#[]⟩, .int .i64 0], .bool false]) (by simp [results, Tryz.results91, go_sem, k_R_0, k_R_1]) rfl ⟨looks_zero HZ.out, ?_⟩
          exact two_below HBM.out (Nat.le_refl _) _ _
        | true =>
          have hst := HST.out
          rw [if_pos rfl] at CM
          by_cases ht : t = s.data.toList
          · have HZ : Hid (looksO s = (true, na, b, nc)) := hid (HO.out.trans (if_pos (by rw [ht])))
            rw [decide_eq_true ht] at hst
            clear ht
            go_wp2_with (go_at_call 84; refine (CM.out _).mono ?_; rintro e wm ⟨rfl, hbm⟩; refine Hid.out ?_)
            refine hid ?_
            have HBM := hid (HBF.out.trans (hbm.mono HBF.out.size))
            have HRM := hid ((hbm.block _ (by omega)).trans HRR.out)
            have HKM := hid ((hbm.block _ (by omega)).trans HKB.out)
            clear hbm y0 y1
            have k_R_0 := (cell_of_row _ _ 0 _ _ _ HRM.out).trans rfl
            have k_R_1 := (cell_of_row _ _ 1 _ _ _ HRM.out).trans rfl
            have fz0 := two_thaw HRM.out 0
            have fz1 := two_thaw HRM.out 1
            have y0 := (cell_of_row _ _ 0 _ _ _ HKM.out).trans rfl
            have y1 := (cell_of_row _ _ 1 _ _ _ HKM.out).trans rfl
            go_wp2
            go_region
            all_goals
              go_wp2
              refine bodyPost_ret (v := .tuple #[.int .i64 na, .agg #[.string (bytesOf b), .int .i64 nc], .bool true]) (by simp [results, Tryz.results91, go_sem, k_R_0, k_R_1]) rfl ⟨looks_one HZ.out, ?_⟩
              first | exact two_below HBM.out (Nat.le_refl _) _ _ | exact (two_below HBM.out (Nat.le_refl _) _ _).drew | exact two_below HBM.out.drew (Nat.le_refl _) _ _
          · have HZ : Hid (looksO s = (false, 0, [], 0)) := hid (HO.out.trans (if_neg (fun h => ht (by injection h with _ h2))))
            rw [decide_eq_false ht] at hst
            clear ht
            go_wp2_with (go_at_call 84; refine (CM.out _).mono ?_; rintro e wm ⟨rfl, hbm⟩; refine Hid.out ?_)
            refine hid ?_
            have HBM := hid (HBF.out.trans (hbm.mono HBF.out.size))
            have HRM := hid ((hbm.block _ (by omega)).trans HRR.out)
            have HKM := hid ((hbm.block _ (by omega)).trans HKB.out)
            clear hbm y0 y1
            have k_R_0 := (cell_of_row _ _ 0 _ _ _ HRM.out).trans rfl
            have k_R_1 := (cell_of_row _ _ 1 _ _ _ HRM.out).trans rfl
            have fz0 := two_thaw HRM.out 0
            have fz1 := two_thaw HRM.out 1
            go_wp2
            refine bodyPost_ret (v := .tuple #[.int .i64 0, .agg #[.string ⟨#[]⟩, .int .i64 0], .bool false]) (by simp [results, Tryz.results91, go_sem, k_R_0, k_R_1]) rfl ⟨looks_zero HZ.out, ?_⟩
            exact two_below HBM.out (Nat.le_refl _) _ _
    · have HZ := hid (HFEW.out h3)
      have h3b : ((ps.length : Int) != 3) = true := by simp; omega
      clear h3
      go_enter Tryz.func91, Tryz.ntmps91
      go_wp2_with (go_at_call 152; rw [← HW1.out]; refine (CP.out _).mono ?_; rintro e w2 ⟨sv2, rfl, hb2, ho2⟩; refine Hid.out ?_)
      refine hid ?_
      have hz2 := hb2.size
      have HB0_2 := hid (HB0_1.out.trans (hb2.mono HB0_1.out.size))
      have HVR_2 := hid ((hb2.block _ (by omega)).trans HVR_1.out)
      clear HB0_1 HVR_1
      obtain ⟨pp, cc, rfl, hpp⟩ := texts_of ho2
      clear ho2 hpp
      clear hb2
      go_wp2_with (go_at_call 88; refine (CK.out _).mono ?_; rintro e w3 ⟨rfl, hb3⟩; refine Hid.out ?_)
      refine hid ?_
      have hz3 := hb3.size
      have HB0_3 := hid (HB0_2.out.trans (hb3.mono HB0_2.out.size))
      have HVR_3 := hid ((hb3.block _ (by omega)).trans HVR_2.out)
      clear HB0_2 HVR_2
      clear hb3
      have k_R_0 := (cell_of_row _ _ 0 _ _ _ HVR_3.out).trans rfl
      have k_R_1 := (cell_of_row _ _ 1 _ _ _ HVR_3.out).trans rfl
      have fz0 := two_thaw HVR_3.out 0
      have fz1 := two_thaw HVR_3.out 1
      go_wp2
      refine bodyPost_ret (v := .tuple #[.int .i64 0, .agg #[.string ⟨#[]⟩, .int .i64 0], .bool false]) (by simp [results, Tryz.results91, go_sem, k_R_0, k_R_1]) rfl ⟨looks_zero HZ.out, ?_⟩
      exact two_below HB0_3.out (Nat.le_refl _) _ _
  · have HZ := hid (HKIND.out h4)
    have h4b : ((kk : Int) != 4) = true := by simp; omega
    clear h4
    go_enter Tryz.func91, Tryz.ntmps91
    go_wp2_with (go_at_call 152; rw [← HW1.out]; refine (CP.out _).mono ?_; rintro e w2 ⟨sv2, rfl, hb2, ho2⟩; refine Hid.out ?_)
    refine hid ?_
    have hz2 := hb2.size
    have HB0_2 := hid (HB0_1.out.trans (hb2.mono HB0_1.out.size))
    have HVR_2 := hid ((hb2.block _ (by omega)).trans HVR_1.out)
    clear HB0_1 HVR_1
    obtain ⟨pp, cc, rfl, hpp⟩ := texts_of ho2
    clear ho2 hpp
    clear hb2
    go_wp2_with (go_at_call 88; refine (CK.out _).mono ?_; rintro e w3 ⟨rfl, hb3⟩; refine Hid.out ?_)
    refine hid ?_
    have hz3 := hb3.size
    have HB0_3 := hid (HB0_2.out.trans (hb3.mono HB0_2.out.size))
    have HVR_3 := hid ((hb3.block _ (by omega)).trans HVR_2.out)
    clear HB0_2 HVR_2
    clear hb3
    have k_R_0 := (cell_of_row _ _ 0 _ _ _ HVR_3.out).trans rfl
    have k_R_1 := (cell_of_row _ _ 1 _ _ _ HVR_3.out).trans rfl
    have fz0 := two_thaw HVR_3.out 0
    have fz1 := two_thaw HVR_3.out 1
    go_wp2
    refine bodyPost_ret (v := .tuple #[.int .i64 0, .agg #[.string ⟨#[]⟩, .int .i64 0], .bool false]) (by simp [results, Tryz.results91, go_sem, k_R_0, k_R_1]) rfl ⟨looks_zero HZ.out, ?_⟩
    exact two_below HB0_3.out (Nat.le_refl _) _ _

set_option maxRecDepth 20000 in
set_option maxHeartbeats 4000000 in
theorem looks_impl (s : ByteArray) (w : World) (hT : Tab w) (hG : 0 < w.heap.size) (hL : Num.Laid w) :
    Calls Tryz.prog 154 #[.string s] w (LooksPost s w) := by
  unfold LooksPost
  have HTAB := hid hT
  have HLD := hid hL
  have CP := hid (fun W hT hG => parts_impl s W hT hG)
  clear hT hL
  obtain ⟨kk, ps, hnd⟩ : ∃ kk ps, nodeOf s = (kk, ps) := ⟨_, _, rfl⟩
  have HFEW := hid (looksO_few (s := s))
  have HTHR := hid (fun a b c h => looksO_three (s := s) (a := a) (b := b) (c := c) h)
  have HSH := hid (fun x h => parts_short (s := s) (x := x) h)
  rw [hnd] at CP HFEW HTHR HSH
  dsimp only at CP HFEW HTHR HSH
  clear hnd
  have HB0_0 : Hid (Below w.heap.size w w) := hid (Below.refl _ _)
  have hz0 : w.heap.size ≤ w.heap.size := Nat.le_refl _
  obtain ⟨w1, hw1⟩ : ∃ W, W = w.alloc (.cells #[.string ⟨#[]⟩, .int .i64 0] 66) := ⟨_, rfl⟩
  have hb1 : Below w.heap.size w w1 := by rw [hw1]; exact (Below.refl _ _).alloc (Nat.le_refl _) _
  have hz1 : w.heap.size < w1.heap.size := by rw [hw1]; simp
  have HVR_1 : Hid (w1.heap[w.heap.size]? = some (.cells #[.string ⟨#[]⟩, .int .i64 0] 66)) := hid (by rw [hw1]; exact heap_alloc_new _ _)
  have HW1 := hid hw1
  have HB0_1 := hid (HB0_0.out.trans (hb1.mono HB0_0.out.size))
  clear hw1 hb1
  by_cases h3 : ps.length = 3
  · obtain ⟨a, b, c, rfl⟩ : ∃ a b c, ps = [a, b, c] := by
      match ps, h3 with
      | [a, b, c], _ => exact ⟨a, b, c, rfl⟩
    have HO := hid (HTHR.out a b c rfl)
    have ha4 : (bytesOf a).size ≤ 1048576 := by rw [bytesOf_size]; have := HSH.out a (by simp); omega
    have hc4 : (bytesOf c).size ≤ 1048576 := by rw [bytesOf_size]; have := HSH.out c (by simp); omega
    have CNa := hid (fun W hL => nof_impl (bytesOf a) ha4 W hL)
    have CNc := hid (fun W hL => nof_impl (bytesOf c) hc4 W hL)
    have CM := hid (fun W hT hG hP => meas_impl (numOf a) (bytesOf b) (numOf c) W hT hG hP)
    rw [bytesOf_list] at CNa CNc
    unfold MadeOut at CM
    rw [bytesOf_list] at CM
    have HST := hid (same_test (measOut (numOf a) b (numOf c)).2 s)
    generalize numOf a = na at *
    generalize numOf c = nc at *
    generalize measOut na b nc = mo at *
    obtain ⟨ok, t⟩ := mo
    dsimp only at CM HST
    obtain ⟨xa, hxa⟩ : ∃ x, bytesOf a = x := ⟨_, rfl⟩
    rw [hxa] at CNa ha4
    have HXA := hid hxa
    obtain ⟨xc, hxc⟩ : ∃ x, bytesOf c = x := ⟨_, rfl⟩
    rw [hxc] at CNc hc4
    have HXC := hid hxc
    clear hxa hxc
    clear HFEW HTHR HSH
    go_enter Tryz.func154, Tryz.ntmps154
    go_wp2_with (go_at_call 187; rw [← HW1.out]; refine (CP.out _ (tab_on HTAB.out hG HB0_1.out) (Nat.lt_of_lt_of_le hG HB0_1.out.size)).mono ?_; rintro e w2 ⟨sv2, rfl, hb2, ho2⟩; refine Hid.out ?_)
    refine hid ?_
    have hz2 := hb2.size
    have HB0_2 := hid (HB0_1.out.trans (hb2.mono HB0_1.out.size))
    have HVR_2 := hid ((hb2.block _ (by omega)).trans HVR_1.out)
    clear HB0_1 HVR_1
    obtain ⟨pp, cc, rfl, hpp⟩ := texts_of ho2
    obtain ⟨g, rfl, hg, hcc⟩ := hpp (by simp)
    have HPA : Hid (w2.cell? ⟨g, 0, none⟩ = some (.string xa)) := hid (HXA.out ▸ hcc 0 (by simp))
    have HPB : Hid (w2.cell? ⟨g, 1, none⟩ = some (.string (bytesOf b))) := hid (hcc 1 (by simp))
    have HPC : Hid (w2.cell? ⟨g, 2, none⟩ = some (.string xc)) := hid (HXC.out ▸ hcc 2 (by simp))
    clear ho2 hpp hcc
    clear hb2
    have hgl : g < w2.heap.size := by omega
    go_wp2_with (fail)
    have CNX := hid (fun W (h : Below w2.heap.size w2 W) => CNa.out W (HLD.out.on (HB0_2.out.trans (h.mono HB0_2.out.size))))
    have CNY := hid (fun W (h : Below w2.heap.size w2 W) => CNc.out W (HLD.out.on (HB0_2.out.trans (h.mono HB0_2.out.size))))
    clear CNa CNc
    go_cut [6, 7] (fun lv pv wx => ∃ k, pv = .pointer (some ⟨k, 0, none⟩) ∧ lv = .int .i64 na ∧ w2.heap.size ≤ k ∧ k < wx.heap.size ∧ Hid (wx.heap[k]? = some (.cells #[.string (bytesOf b), .int .i64 nc] 66)) ∧ Hid (Below w2.heap.size w2 wx))
    case first =>
      have c0 : ∀ W : World, Below w2.heap.size w2 W → W.cell? ⟨g, 0, none⟩ = some (.string xa) := fun W hW => (hW.cell (p := ⟨g, 0, none⟩) hgl).trans HPA.out
      have c1 : ∀ W : World, Below w2.heap.size w2 W → W.cell? ⟨g, 1, none⟩ = some (.string (bytesOf b)) := fun W hW => (hW.cell (p := ⟨g, 1, none⟩) hgl).trans HPB.out
      have c2 : ∀ W : World, Below w2.heap.size w2 W → W.cell? ⟨g, 2, none⟩ = some (.string xc) := fun W hW => (hW.cell (p := ⟨g, 2, none⟩) hgl).trans HPC.out
      go_region_held3 (fun w' => Below w2.heap.size w2 w') (first | with_reducible assumption | exact Below.drew (Below.refl _ _) | exact Below.alloc (Below.drew (Below.refl _ _)) (by simp) _ | exact hS2 | exact hS1 | exact Below.drew hS1 | exact Below.drew hS2 | exact Below.alloc hS2 hS2.size _ | exact Below.alloc hS1 hS1.size _ | exact two_below hS2 (Nat.le_refl _) _ _ | exact two_below hS2 hS1.size _ _ | exact two_below hS1 (Nat.le_refl _) _ _ | (fail "no")) ((first | (go_at_call_of 188 (Value.string xa); refine (CNX.out _ (by first | with_reducible assumption | exact Below.drew (Below.refl _ _) | exact Below.alloc (Below.drew (Below.refl _ _)) (by simp) _)).mono ?_; rintro e xA ⟨rfl, hyA⟩; have hS1 : Below w2.heap.size w2 xA := (by first | exact below_on (Below.drew (Below.refl _ _)) (Nat.le_refl _) hyA | exact below_on (Below.alloc (Below.drew (Below.refl _ _)) (by simp) _) (Nat.le_refl _) hyA); first | (have hbk : xA.heap[w2.heap.size]? = some (.cells #[.string ⟨#[]⟩, .int .i64 0] 66) := (hyA.block _ (by simp)).trans (heap_alloc_new _ _); have hlt : w2.heap.size < xA.heap.size := (by have := hyA.size; simp at this; omega)) | skip) | (go_at_call_of 188 (Value.string xc); refine (CNY.out _ (by first | with_reducible assumption | exact hS1 | exact Below.alloc hS1 hS1.size _)).mono ?_; rintro e xC ⟨rfl, hyC⟩; have hS2 : Below w2.heap.size w2 xC := (by first | exact below_on hS1 (Nat.le_refl _) hyC | exact below_on (Below.alloc hS1 hS1.size _) (Nat.le_refl _) hyC); first | (have hbk2 : xC.heap[w2.heap.size]? = some (.cells #[.string ⟨#[]⟩, .int .i64 0] 66) := (hyC.block _ hlt).trans hbk; have z0 := (cell_of_row _ _ 0 _ _ _ hbk2).trans rfl; have z1 := (cell_of_row _ _ 1 _ _ _ hbk2).trans rfl; have f0 := two_thaw hbk2 0; have f1 := two_thaw hbk2 1) | (have hbk3 : xC.heap[xA.heap.size]? = some (.cells #[.string ⟨#[]⟩, .int .i64 0] 66) := (hyC.block _ (by simp)).trans (heap_alloc_new _ _); have z0 := (cell_of_row _ _ 0 _ _ _ hbk3).trans rfl; have z1 := (cell_of_row _ _ 1 _ _ _ hbk3).trans rfl; have f0 := two_thaw hbk3 0; have f1 := two_thaw hbk3 1) | skip)))
      all_goals
        go_wp2_with (fail)
        go_meet
        case rel => first | exact ⟨_, rfl, rfl, hS2.size, by simp, hid (heap_alloc_new _ _), hid (hS2.alloc hS2.size _)⟩ | exact ⟨_, rfl, rfl, Nat.le_refl _, by simp; have := hyC.size; omega, hid (two_put hbk2 _ _), hid (two_below hS2 (Nat.le_refl _) _ _)⟩ | exact ⟨_, rfl, rfl, hS1.size, by simp; have := hyC.size; simp at this; omega, hid (two_put hbk3 _ _), hid (two_below hS2 hS1.size _ _)⟩
    case rest =>
      obtain ⟨k, rfl, rfl, hk1, hk2, HKB, HBB⟩ := hcut
    
      have HBF := hid (HB0_2.out.trans (HBB.out.mono HB0_2.out.size))
      have HRR := hid ((HBB.out.block _ (by omega)).trans HVR_2.out)
      have y0 := (cell_of_row _ _ 0 _ _ _ HKB.out).trans rfl
      have y1 := (cell_of_row _ _ 1 _ _ _ HKB.out).trans rfl
      cases ok with
      | false =>
        have HZ : Hid (looksO s = (false, 0, [], 0)) := hid (HO.out.trans (if_neg (fun h => by cases h)))
        rw [if_neg (by decide)] at CM
        go_wp2_with (go_at_call 147; refine (CM.out _ (tab_on HTAB.out hG HBF.out) (Nat.lt_of_lt_of_le hG HBF.out.size) (HLD.out.on HBF.out).tab).mono ?_; rintro e wm ⟨rfl, hbm⟩; refine Hid.out ?_)
        refine hid ?_
        have HBM := hid (HBF.out.trans (hbm.mono HBF.out.size))
        have HRM := hid ((hbm.block _ (by omega)).trans HRR.out)
        have HKM := hid ((hbm.block _ (by omega)).trans HKB.out)
        clear hbm y0 y1
        have k_R_0 := (cell_of_row _ _ 0 _ _ _ HRM.out).trans rfl
        have k_R_1 := (cell_of_row _ _ 1 _ _ _ HRM.out).trans rfl
        have fz0 := two_thaw HRM.out 0
        have fz1 := two_thaw HRM.out 1
        go_wp2
        refine bodyPost_ret (v := .tuple #[.int .i64 0, .agg #[.string ⟨#[]⟩, .int .i64 0], .bool false]) (by simp [results, Tryz.results154, go_sem, k_R_0, k_R_1]) rfl ⟨looks_zero HZ.out, ?_⟩
        exact two_below HBM.out (Nat.le_refl _) _ _
      | true =>
        have hst := HST.out
        rw [if_pos rfl] at CM
        by_cases ht : t = s.data.toList
        · have HZ : Hid (looksO s = (true, na, b, nc)) := hid (HO.out.trans (if_pos (by rw [ht])))
          rw [decide_eq_true ht] at hst
          clear ht
          go_wp2_with (go_at_call 147; refine (CM.out _ (tab_on HTAB.out hG HBF.out) (Nat.lt_of_lt_of_le hG HBF.out.size) (HLD.out.on HBF.out).tab).mono ?_; rintro e wm ⟨rfl, hbm⟩; refine Hid.out ?_)
          refine hid ?_
          have HBM := hid (HBF.out.trans (hbm.mono HBF.out.size))
          have HRM := hid ((hbm.block _ (by omega)).trans HRR.out)
          have HKM := hid ((hbm.block _ (by omega)).trans HKB.out)
          clear hbm y0 y1
          have k_R_0 := (cell_of_row _ _ 0 _ _ _ HRM.out).trans rfl
          have k_R_1 := (cell_of_row _ _ 1 _ _ _ HRM.out).trans rfl
          have fz0 := two_thaw HRM.out 0
          have fz1 := two_thaw HRM.out 1
          have y0 := (cell_of_row _ _ 0 _ _ _ HKM.out).trans rfl
          have y1 := (cell_of_row _ _ 1 _ _ _ HKM.out).trans rfl
          go_wp2
          go_region
          all_goals
            go_wp2
            refine bodyPost_ret (v := .tuple #[.int .i64 na, .agg #[.string (bytesOf b), .int .i64 nc], .bool true]) (by simp [results, Tryz.results154, go_sem, k_R_0, k_R_1]) rfl ⟨looks_one HZ.out, ?_⟩
            first | exact two_below HBM.out (Nat.le_refl _) _ _ | exact (two_below HBM.out (Nat.le_refl _) _ _).drew | exact two_below HBM.out.drew (Nat.le_refl _) _ _
        · have HZ : Hid (looksO s = (false, 0, [], 0)) := hid (HO.out.trans (if_neg (fun h => ht (by injection h with _ h2))))
          rw [decide_eq_false ht] at hst
          clear ht
          go_wp2_with (go_at_call 147; refine (CM.out _ (tab_on HTAB.out hG HBF.out) (Nat.lt_of_lt_of_le hG HBF.out.size) (HLD.out.on HBF.out).tab).mono ?_; rintro e wm ⟨rfl, hbm⟩; refine Hid.out ?_)
          refine hid ?_
          have HBM := hid (HBF.out.trans (hbm.mono HBF.out.size))
          have HRM := hid ((hbm.block _ (by omega)).trans HRR.out)
          have HKM := hid ((hbm.block _ (by omega)).trans HKB.out)
          clear hbm y0 y1
          have k_R_0 := (cell_of_row _ _ 0 _ _ _ HRM.out).trans rfl
          have k_R_1 := (cell_of_row _ _ 1 _ _ _ HRM.out).trans rfl
          have fz0 := two_thaw HRM.out 0
          have fz1 := two_thaw HRM.out 1
          go_wp2
          refine bodyPost_ret (v := .tuple #[.int .i64 0, .agg #[.string ⟨#[]⟩, .int .i64 0], .bool false]) (by simp [results, Tryz.results154, go_sem, k_R_0, k_R_1]) rfl ⟨looks_zero HZ.out, ?_⟩
          exact two_below HBM.out (Nat.le_refl _) _ _
  · have HZ := hid (HFEW.out h3)
    have h3b : ((ps.length : Int) != 3) = true := by simp; omega
    clear h3
    go_enter Tryz.func154, Tryz.ntmps154
    go_wp2_with (go_at_call 187; rw [← HW1.out]; refine (CP.out _ (tab_on HTAB.out hG HB0_1.out) (Nat.lt_of_lt_of_le hG HB0_1.out.size)).mono ?_; rintro e w2 ⟨sv2, rfl, hb2, ho2⟩; refine Hid.out ?_)
    refine hid ?_
    have hz2 := hb2.size
    have HB0_2 := hid (HB0_1.out.trans (hb2.mono HB0_1.out.size))
    have HVR_2 := hid ((hb2.block _ (by omega)).trans HVR_1.out)
    clear HB0_1 HVR_1
    obtain ⟨pp, cc, rfl, hpp⟩ := texts_of ho2
    clear ho2 hpp
    clear hb2
    have k_R_0 := (cell_of_row _ _ 0 _ _ _ HVR_2.out).trans rfl
    have k_R_1 := (cell_of_row _ _ 1 _ _ _ HVR_2.out).trans rfl
    have fz0 := two_thaw HVR_2.out 0
    have fz1 := two_thaw HVR_2.out 1
    go_wp2
    refine bodyPost_ret (v := .tuple #[.int .i64 0, .agg #[.string ⟨#[]⟩, .int .i64 0], .bool false]) (by simp [results, Tryz.results154, go_sem, k_R_0, k_R_1]) rfl ⟨looks_zero HZ.out, ?_⟩
    exact two_below HB0_2.out (Nat.le_refl _) _ _
end Go.Proofs.YtgmgffbfpbkfmaaGreatDoor
