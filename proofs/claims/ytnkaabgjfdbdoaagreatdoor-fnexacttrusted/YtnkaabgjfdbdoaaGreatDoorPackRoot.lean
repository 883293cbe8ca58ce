/- Laid together: RootMark0, RootSpec. -/
import Derived.Test.YtnkaabgjfdbdoaaGreatDoorPackRead
import Derived.Test.YtnkaabgjfdbdoaaGreatDoorMarks
import Derived.Test.YtnkaabgjfdbdoaaGreatDoorRootHelp
import Derived.Test.YtnkaabgjfdbdoaaGreatDoorPackFold

namespace Go.Proofs.YtnkaabgjfdbdoaaGreatDoor
open Go.RowKit
open Go.Lib (hid)

theorem texts_nil (w : World) : TextsAt w (.slice none 0 0) [] := ⟨none, 0, rfl, fun h => absurd rfl h⟩

set_option maxRecDepth 20000 in
set_option maxHeartbeats 1000000 in
theorem mark_root0 (key : ByteArray) (s : Int) (l : List Int) (up : Bool) (k : Nat) (h0 : 0 < k) (hn : k + l.length ≤ 1000000000) (base : Nat) (a : Value) (w : World) (ha : w.ownsRow base 2 1 a l.length (ints l)) :
    Calls Tryz.prog 65 #[.agg #[.string key, .int .i64 s, a, .bool up, .slice none 0 0], .int .i64 k] w fun e w' => e = .returned (.int .i64 ((k + l.length : Nat) : Int)) ∧ w.grownBy w' a.ownBlock ∧ w'.ownsRow base 2 1 a l.length (ints (imarks k l.length)) := by
  obtain ⟨p, c, rfl, _, _⟩ := row_in_own ha
  obtain ⟨W0, hW0⟩ : ∃ W0, W0 = w.alloc (.cells #[.string key, .int .i64 s, .slice p l.length c, .bool up, .slice none 0 0] 41) := ⟨_, rfl⟩
  have HB0 : Hid (Below w.heap.size w W0) := hid (by rw [hW0]; exact (Below.refl _ _).alloc (Nat.le_refl _) _)
  have HC0 : Hid (W0.heap[w.heap.size]? = some (.cells #[.string key, .int .i64 s, .slice p l.length c, .bool up, .slice none 0 0] 41)) := hid (by rw [hW0]; exact heap_alloc_new _ _)
  have hz0 : w.heap.size < W0.heap.size := by rw [hW0]; simp
  have HW0 := hid hW0
  have HA := hid (own_below ha HB0.out)
  have HLT := hid ha.lt
  have CM := hid (fun (j : Nat) (h : 0 < j) (hj : j ≤ 1000000000) (W : World) => mark_calls [] j h hj 0 (.slice none 0 0) W (World.ownsRow_nil _ _ _ _))
  have CV := hid (fun W h => mark_nv s l k hn base (.slice p l.length c) W h)
  obtain ⟨j, hj⟩ : ∃ j, j = k + l.length := ⟨_, rfl⟩
  have hj0 : 0 < j := by omega
  have hj1 : j ≤ 1000000000 := by omega
  rw [← hj] at CV
  rw [← hj]
  clear hW0 ha hj hn h0
  go_enter Tryz.func65, Tryz.ntmps65
  go_wp2_with (go_at_call 124; rw [← HW0.out]; refine (CV.out _ HA.out).mono ?_; rintro e w1 ⟨rfl, hg1, ho1⟩; refine Hid.out ?_)
  refine hid ?_
  have HG1 := hid hg1
  have HO1 := hid ho1
  have HC1 := hid ((hg1.block _ hz0 (fun e => by have := HLT.out _ e.symm; omega)).trans HC0.out)
  obtain ⟨k0, k1, k2, k3, k4⟩ := five_cells HC1.out
  clear hg1 ho1
  go_wp2_with (go_at_call 125; refine (CM.out _ hj0 hj1 _).mono ?_; rintro e w2 ⟨rfl, hg2, _⟩; refine Hid.out ?_)
  refine hid ?_
  have HB2 : Hid (Below w1.heap.size w1 w2) := hid (grown_to hg2 (Nat.le_refl _) (fun k hk => by cases hk))
  clear hg2
  go_wp2
  go_ret
  exact ⟨rfl, grown_trans (grown_below HB0.out) (grown_trans HG1.out (grown_below HB2.out)), own_below HO1.out HB2.out⟩

set_option maxRecDepth 20000 in
set_option maxHeartbeats 1000000 in
theorem held_root0 (key : ByteArray) (s : Int) (up : Bool) (k n : Nat) (h0 : 0 < k) (hn : k + n ≤ 1000000000) (a : Value) (w : World) (ha : RowIn w a (imarks k n)) :
    Calls Tryz.prog 69 #[.agg #[.string key, .int .i64 s, a, .bool up, .slice none 0 0], .int .i64 k] w fun e w' => e = .returned (.int .i64 ((k + n : Nat) : Int)) ∧ Below w.heap.size w w' := by
  have HA := hid ha
  obtain ⟨p, c, rfl, _, _⟩ := ha
  have CM := hid (fun (j : Nat) (h : 0 < j) (hj : j ≤ 1000000000) (W : World) => held_calls j 0 h hj (.slice none 0 0) W (texts_nil W))
  obtain ⟨W0, hW0⟩ : ∃ W0, W0 = w.alloc (.cells #[.string key, .int .i64 s, .slice p (imarks k n).length c, .bool up, .slice none 0 0] 41) := ⟨_, rfl⟩
  have HB0 : Hid (Below w.heap.size w W0) := hid (by rw [hW0]; exact (Below.refl _ _).alloc (Nat.le_refl _) _)
  have HC0 : Hid (W0.heap[w.heap.size]? = some (.cells #[.string key, .int .i64 s, .slice p (imarks k n).length c, .bool up, .slice none 0 0] 41)) := hid (by rw [hW0]; exact heap_alloc_new _ _)
  have hz0 : w.heap.size < W0.heap.size := by rw [hW0]; simp
  have HW0 := hid hW0
  have CV := hid (fun W h => held_nv s k n hn (.slice p (imarks k n).length c) W h)
  obtain ⟨j, hj⟩ : ∃ j, j = k + n := ⟨_, rfl⟩
  have hj0 : 0 < j := by omega
  have hj1 : j ≤ 1000000000 := by omega
  have hj2 : ¬ (j : Int) < 0 := by omega
  rw [← hj] at CV
  rw [← hj]
  clear hW0 hj hn h0
  go_enter Tryz.func69, Tryz.ntmps69
  go_wp2_with (go_at_call 128; rw [← HW0.out]; refine (CV.out _ (HA.out.on HB0.out)).mono ?_; rintro e w1 ⟨rfl, hb1⟩; refine Hid.out ?_)
  refine hid ?_
  have HB1 := hid (HB0.out.trans (hb1.mono HB0.out.size))
  have HC1 := hid ((hb1.block _ hz0).trans HC0.out)
  obtain ⟨k0, k1, k2, k3, k4⟩ := five_cells HC1.out
  clear hb1
  go_wp2_with (go_at_call 129; refine (CM.out _ hj0 hj1 _).mono ?_; rintro e w2 ⟨rfl, hb2⟩; refine Hid.out ?_)
  refine hid ?_
  have HB2 := hid (HB1.out.trans (hb2.mono HB1.out.size))
  clear hb2
  go_wp2
  go_ret
  exact ⟨rfl, HB2.out⟩
end Go.Proofs.YtnkaabgjfdbdoaaGreatDoor

namespace Go.Proofs.YtnkaabgjfdbdoaaGreatDoor
open Go.RowKit
open Go.Lib (hid)

/-- Is it a right Root. -/
def rootB (key : List UInt8) (s : Int) (l : List Int) (up : Bool) (ps : List (List UInt8)) : Bool :=
  (readOut s l).2.2 && (decide (s = 1) && (secretB key && (if up = true then regB ps else decide (ps.length = 0))))

theorem readOut_count {s : Int} {l : List Int} (h : (readOut s l).2.2 = true) : ((readOut s l).1.length : Int) = s := by
  unfold readOut at h ⊢
  by_cases hf : formB s l = true
  · rw [if_pos hf] at h ⊢
    obtain ⟨h1, h2, h3, h4⟩ := formB_iff.1 hf
    by_cases hb : (bestOf l (s.toNat + 2) 2).1 < 0
    · rw [if_pos hb] at h; cases h
    · rw [if_neg hb]
      show ((cpN (copyOf l (s.toNat + 2) (bestOf l (s.toNat + 2) 2).1.toNat)).length : Int) = s
      have hc := copyOf_len l (s.toNat + 2) (bestOf l (s.toNat + 2) 2).1.toNat (by omega)
      generalize copyOf l (s.toNat + 2) (bestOf l (s.toNat + 2) 2).1.toNat = L at *
      unfold cpN
      simp
      omega
  · rw [if_neg hf] at h; cases h

theorem secret_node (x : ByteArray) : secretB x.data.toList = decide ((nodeOf x).1 = 2) := by
  rw [Bool.eq_iff_iff, decide_eq_true_iff]
  unfold nodeOf
  by_cases h4 : x.size ≤ 4000
  · rw [if_pos h4]; exact kind_two.symm
  · rw [if_neg h4]
    refine ⟨fun h => ?_, fun h => by cases h⟩
    have hsz : x.data.toList.length = x.size := by simp
    generalize x.data.toList = L at *
    cases L with
    | nil => cases h
    | cons c r =>
      unfold secretB at h
      rw [Bool.and_eq_true] at h
      have h2 := h.2
      cases r with
      | nil => cases h2
      | cons c2 r2 =>
        unfold nameB at h2
        simp at h2 hsz
        omega

set_option maxRecDepth 20000 in
set_option maxHeartbeats 4000000 in
theorem rootOk_spec (key : ByteArray) (s : Int) (l : List Int) (hl : l.length ≤ 1048576) (up : Bool) (ps : List (List UInt8)) (hs : ∀ p ∈ ps, p.length ≤ 1048576) (hn : ps.length ≤ 1048576) (a1 a2 : Value) (w : World) (h1 : RowIn w a1 l) (h2 : TextsAt w a2 ps) :
    Calls Tryz.prog 32 #[.agg #[.string key, .int .i64 s, a1, .bool up, a2]] w fun e w' => e = .returned (.bool (rootB key.data.toList s l up ps)) ∧ Below w.heap.size w w' := by
  have H1 := hid h1
  have H2 := hid h2
  have CN := hid (fun a W (ha : RowIn W a l) => read_spec s l hl a W ha)
  unfold ReadPost at CN
  have CR := hid (fun a W (ha : TextsAt W a ps) => regs_spec ps hs hn a W ha)
  obtain ⟨p1, c1, rfl, _, _⟩ := h1
  obtain ⟨p2, c2, rfl, _⟩ := h2
  unfold rootB
  generalize (readOut s l).2.1 = cc at *
  generalize (readOut s l).2.2 = b at *
  generalize (readOut s l).1 = L at *
  obtain ⟨W0, hW0⟩ : ∃ W0, W0 = w.alloc (.cells #[.string key, .int .i64 s, .slice p1 l.length c1, .bool up, .slice p2 ps.length c2] 41) := ⟨_, rfl⟩
  have HB0 : Hid (Below w.heap.size w W0) := hid (by rw [hW0]; exact (Below.refl _ _).alloc (Nat.le_refl _) _)
  have HC0 : Hid (W0.heap[w.heap.size]? = some (.cells #[.string key, .int .i64 s, .slice p1 l.length c1, .bool up, .slice p2 ps.length c2] 41)) := hid (by rw [hW0]; exact heap_alloc_new _ _)
  have hz0 : w.heap.size < W0.heap.size := by rw [hW0]; simp
  have HW0 := hid hW0
  clear hs hW0
  go_enter Tryz.func32, Tryz.ntmps32
  go_wp2_with (go_at_call 86; rw [← HW0.out]; refine (CN.out _ _ (H1.out.on HB0.out)).mono ?_; rintro e w1 ⟨sv1, rfl, hb1, -⟩; refine Hid.out ?_)
  refine hid ?_
  have HB1 := hid (HB0.out.trans (hb1.mono HB0.out.size))
  have HC1 := hid ((hb1.block _ hz0).trans HC0.out)
  obtain ⟨k0, k1, k2, k3, k4⟩ := five_cells HC1.out
  clear hb1
  cases b with
  | false =>
    go_wp2
    all_goals (go_ret; exact ⟨rfl, HB1.out⟩)
  | true =>
    by_cases h1 : s = 1
    · have i1 : (s != 1) = false := by rw [h1]; rfl
      have HD := hid (show decide (s = 1) = true by rw [h1]; rfl)
      clear h1
      cases hsec : secretB key.data.toList with
      | false =>
        have HS := hid hsec
        clear hsec
        go_wp2_with (go_at_call 87; refine (ssecret_calls key _).mono ?_; rintro e w5 ⟨rfl, e5⟩; rw [e5, HS.out]; clear e5 w5; refine Hid.out ?_)
        refine hid ?_
        go_wp2
        all_goals (go_ret; exact ⟨by rw [HD.out, HS.out]; rfl, HB1.out⟩)
      | true =>
        have HS := hid hsec
        clear hsec
        go_wp2_with (go_at_call 87; refine (ssecret_calls key _).mono ?_; rintro e w5 ⟨rfl, e5⟩; rw [e5, HS.out]; clear e5 w5; refine Hid.out ?_)
        refine hid ?_
        cases up with
        | true =>
          go_wp2_with (go_at_call 88; refine (CR.out _ _ (H2.out.on HB1.out)).mono ?_; rintro e w6 ⟨rfl, hb6⟩; refine Hid.out ?_)
          refine hid ?_
          have HB6 := hid (HB1.out.trans (hb6.mono HB1.out.size))
          clear hb6
          go_wp2
          go_ret
          exact ⟨by rw [HD.out, HS.out]; rfl, HB6.out⟩
        | false =>
          go_wp2
          go_ret
          refine ⟨?_, HB1.out⟩
          rw [HD.out, HS.out]
          refine Eq.trans (b := Ending.returned (.bool ((ps.length : Int) == 0))) ?_ ?_
          · rfl
          · show Ending.returned (.bool ((ps.length : Int) == 0)) = Ending.returned (.bool (decide (ps = [])))
            congr 2
            rw [Bool.eq_iff_iff, beq_iff_eq, decide_eq_true_iff, ← List.length_eq_zero_iff]
            omega
    · have i1 : (s != 1) = true := by rw [bne_iff_ne]; exact h1
      have HD := hid (show decide (s = 1) = false from decide_eq_false h1)
      clear h1
      go_wp2
      all_goals (go_ret; exact ⟨by rw [HD.out]; rfl, HB1.out⟩)
end Go.Proofs.YtnkaabgjfdbdoaaGreatDoor
