/- Laid together: CloneTexts, PolOpen, PolBoth. -/
import Derived.Test.YtponjghppnpnhaaDoorPolSpec
import Derived.Test.YtponjghppnpnhaaDoorPackRows
import Derived.Test.YtponjghppnpnhaaDoorTwoBox

namespace Go.Proofs.YtponjghppnpnhaaDoor
open Go.RowKit
open Go.Lib (hid)

set_option maxRecDepth 20000 in
theorem clone_empty (a : Addr) (c : Nat) (w : World) : Calls Tryd.prog 132 #[.slice (some a) 0 c] w fun e w' => ∃ v, e = .returned v ∧ TextsAt w' v [] ∧ Below w.heap.size w w' := by
  have hnl : ∀ w, (binOp .eql 22 (.slice (some a) 0 c) (.slice none 0 0)).run Tryd.prog w = .ok (.bool false) w := fun w => Lib.run_eql_slice_nil w _ _ (some a) 0 c 0 0 Tryd.underlying22
  go_enter Tryd.func132, Tryd.ntmps132
  go_wp2
  exact bodyPost_ret (v := .slice (some ⟨w.heap.size, 0, none⟩) 0 0) (by simp [results, Tryd.results132, go_sem]) rfl ⟨_, rfl, ⟨_, 0, rfl, fun h => absurd rfl h⟩, (Below.refl _ _).alloc (Nat.le_refl _) _⟩

theorem clone_some (ps : List (List UInt8)) (hm : ps.length ≤ 1048576) (g c : Nat) (w : World) (hk : KRow w g ps) :
    Calls Tryd.prog 132 #[.slice (some ⟨g, 0, none⟩) ps.length c] w fun e w' => ∃ v, e = .returned v ∧ TextsAt w' v ps ∧ Below w.heap.size w w' := by
  refine (Tryd.slices_Clone_string g 0 ps.length c (ps.map bytesOf) w (by simp) (by omega) (fun j hj => ?_)).mono ?_
  · have hj2 : j < ps.length := by simpa using hj
    have h := hk.2 j hj2
    rw [Nat.zero_add, h]
    simp [List.getD, hj2, bytesOf]
  · rintro e w' ⟨v, rfl, ho, _, hb⟩
    refine ⟨v, rfl, texts_of (base := w.heap.size) ?_, hb⟩
    have he : ((ps.map bytesOf).take ps.length).map Value.string = strs ps := by
      rw [List.take_of_length_le (by simp)]
      simp [strs, bytesOf]
    rw [← he]
    exact ho

/-- A row of texts that is cloned stands for the same texts, in no memory of old. -/
theorem clone_texts (ps : List (List UInt8)) (hm : ps.length ≤ 1048576) (b : Value) (w : World) (hb : TextsAt w b ps) :
    Calls Tryd.prog 132 #[b] w fun e w' => ∃ v, e = .returned v ∧ TextsAt w' v ps ∧ Below w.heap.size w w' := by
  obtain ⟨p, c, rfl, hp⟩ := hb
  by_cases hne : ps = []
  · subst hne
    cases p with
    | none => exact (Any.slices_Clone_string_nil Tryd.laysNm216 0 c w).mono fun e w' h => ⟨_, h.1, ⟨none, 0, rfl, fun h => absurd rfl h⟩, by rw [h.2]; exact Below.refl _ _⟩
    | some a => exact clone_empty a c w
  · obtain ⟨g, rfl, hk⟩ := hp hne
    exact clone_some ps hm g c w hk
end Go.Proofs.YtponjghppnpnhaaDoor

namespace Go.Proofs.YtponjghppnpnhaaDoor
open Go.RowKit Go.WideMaps Go.Maps
open Go.Lib (hid)

theorem pol_rows_no {a b : Bool} (h : (a && b) = false) (c d : Bool) : (a && (c && (b && d))) = false := by
  cases a <;> cases b <;> simp at *
theorem pol_ris_no {c d : Bool} (h : (c && d) = false) (a b : Bool) : (a && (c && (b && d))) = false := by
  cases c <;> cases d <;> simp at *
theorem below_three {B b : Nat} {w W : World} (h : Below B w W) (hb : B ≤ b) (x0 x1 x2 : Value) : Below B w (((W.setCell ⟨b, 0, none⟩ x0).setCell ⟨b, 1, none⟩ x1).setCell ⟨b, 2, none⟩ x2) :=
  ((h.setCell (p := ⟨b, 0, none⟩) hb _).setCell (p := ⟨b, 1, none⟩) hb _).setCell (p := ⟨b, 2, none⟩) hb _
theorem pol_all {a b c d : Bool} (h : (a && b) = true) (h2 : (c && d) = true) : (a && (c && (b && d))) = true := by
  cases a <;> cases b <;> cases c <;> cases d <;> simp at *

/-- What opening a policy answers. -/
def OpenPolPost (H : Type) (num : Int) (es : List RefD) (ps : List (List UInt8)) (w : World) (e : Ending) (w' : World) : Prop :=
  Below w.heap.size w w' ∧ ((polB num es ps = false ∧ e = .returned (.tuple #[.agg #[.int .i64 0, .map none, .slice none 0 0], .bool false])) ∨
    (polB num es ps = true ∧ ∃ s p4 c4, e = .returned (.tuple #[.agg #[.int .i64 num, .map (some s), .slice p4 ps.length c4], .bool true]) ∧ w.heap.size ≤ s ∧ w'.ownsMap Tryd.prog 178 (rowElem (H := H)) s es.length (rowsD es es.length) ∧ TextsAt w' (.slice p4 ps.length c4) ps))

/-- Texts stay where a box that was empty is filled. -/
theorem texts_set {W : World} {b : Nat} {t : TypeId} {v : Value} {ps : List (List UInt8)} (hz : W.heap[b]? = some (.cells #[.int .i64 0, .map none, .slice none 0 0] t)) (h : TextsAt W v ps) (y0 y1 y2 : Value) : TextsAt (((W.setCell ⟨b, 0, none⟩ y0).setCell ⟨b, 1, none⟩ y1).setCell ⟨b, 2, none⟩ y2) v ps := by
  obtain ⟨p, c, rfl, hp⟩ := h
  refine ⟨p, c, rfl, fun hne => ?_⟩
  obtain ⟨g, rfl, hg, hc⟩ := hp hne
  have hgb : g ≠ b := by
    intro e
    subst e
    have h0 := hc 0 (List.length_pos_iff.2 hne)
    rw [(three_refs hz).1] at h0
    cases h0
  refine ⟨g, rfl, by simpa using hg, fun j hj => ?_⟩
  rw [World.cell?_setCell_other _ _ _ _ (fun e => hgb (by injection e with e _; exact e.symm)), World.cell?_setCell_other _ _ _ _ (fun e => hgb (by injection e with e _; exact e.symm)), World.cell?_setCell_other _ _ _ _ (fun e => hgb (by injection e with e _; exact e.symm))]
  exact hc j hj

theorem rows_no {es : List RefD} (hr : (decide (es.length ≤ 60) && rowsB es es.length) = false) (hn : es.length ≤ 1048576) (hf : RowsFit es) (a : Value) (w : World) (ha : FRow encRef 3 w a es) (hT : Tab w) (hG : 0 < w.heap.size) (hP : Lib.TabIs Tryd.prog w "internal/strconv.uint64pow10" .u64 Lib.pow10Tab) :
    Calls Tryd.prog 130 #[a] w fun e w' => e = .returned (.tuple #[.map none, .bool false]) ∧ Below w.heap.size w w' :=
  (readRows_calls (H := Unit) es hn hf a w ha hT hG hP).mono fun e w' h => by
    unfold RowsPost at h
    rcases h with ⟨hb, ⟨_, he⟩ | ⟨hy, _⟩⟩
    · exact ⟨he, hb⟩
    · rw [hr] at hy; cases hy

theorem rows_yes {H : Type} {es : List RefD} (hr : (decide (es.length ≤ 60) && rowsB es es.length) = true) (hn : es.length ≤ 1048576) (hf : RowsFit es) (a : Value) (w : World) (ha : FRow encRef 3 w a es) (hT : Tab w) (hG : 0 < w.heap.size) (hP : Lib.TabIs Tryd.prog w "internal/strconv.uint64pow10" .u64 Lib.pow10Tab) :
    Calls Tryd.prog 130 #[a] w fun e w' => ∃ s, e = .returned (.tuple #[.map (some s), .bool true]) ∧ Below w.heap.size w w' ∧ w.heap.size ≤ s ∧ w'.ownsMap Tryd.prog 178 (rowElem (H := H)) s es.length (rowsD es es.length) :=
  (readRows_calls (H := H) es hn hf a w ha hT hG hP).mono fun e w' h => by
    unfold RowsPost at h
    rcases h with ⟨hb, ⟨hy, _⟩ | ⟨_, s, he, hs, ho⟩⟩
    · rw [hr] at hy; cases hy
    · exact ⟨s, he, hb, hs, ho⟩

set_option maxRecDepth 20000 in
set_option maxHeartbeats 4000000 in
theorem openPol_calls {H : Type} (num : Int) (es : List RefD) (hn : es.length ≤ 1048576) (hf : RowsFit es) (ps : List (List UInt8)) (hm : ps.length ≤ 1048576) (a b : Value) (w : World) (ha : FRow encRef 3 w a es) (hb : TextsAt w b ps) (hT : Tab w) (hG : 0 < w.heap.size) (hP : Lib.TabIs Tryd.prog w "internal/strconv.uint64pow10" .u64 Lib.pow10Tab) :
    Calls Tryd.prog 73 #[.agg #[.int .i64 num, a, b]] w (OpenPolPost H num es ps w) := by
  unfold OpenPolPost
  have HPB : Hid (polB num es ps = (decide (0 ≤ num ∧ num ≤ 1000000000) && (decide (es.length ≤ 60) && (decide (ps.length ≤ 60) && (rowsB es es.length && risB ps ps.length))))) := hid rfl
  generalize polB num es ps = r at *
  have CN := hid (fun hr W (hB : Below w.heap.size w W) => rows_no (es := es) hr hn hf a W (ha.on hB) (tab_on hT hG hB) (Nat.lt_of_lt_of_le hG hB.size) (Num.tab_stays hB hP))
  have CY := hid (fun hr W (hB : Below w.heap.size w W) => rows_yes (H := H) (es := es) hr hn hf a W (ha.on hB) (tab_on hT hG hB) (Nat.lt_of_lt_of_le hG hB.size) (Num.tab_stays hB hP))
  have CR := hid (fun W (hB : Below w.heap.size w W) => rising_impl ps hm 60 (by decide) b W (hb.on hB) (tab_on hT hG hB) (Nat.lt_of_lt_of_le hG hB.size))
  have CC := hid (fun W (hB : Below w.heap.size w W) => clone_texts ps hm b W (hb.on hB))
  have HPP := hid (fun W (hB : Below w.heap.size w W) => Num.tab_stays hB hP)
  obtain ⟨p, c, rfl, _, hrest⟩ := ha
  obtain ⟨q, d, rfl, hrest2⟩ := hb
  clear hrest hrest2 hT hG hP hf
  obtain ⟨W0, hW0⟩ : ∃ W0, W0 = (w.alloc (.cells #[.int .i64 num, .slice p es.length c, .slice q ps.length d] 54)).alloc (.cells #[.int .i64 0, .map none, .slice none 0 0] 119) := ⟨_, rfl⟩
  have HB0 : Hid (Below w.heap.size w W0) := hid (by rw [hW0]; exact ((Below.refl _ _).alloc (Nat.le_refl _) _).alloc (by simp) _)
  have HV0 : Hid (W0.heap[w.heap.size]? = some (.cells #[.int .i64 num, .slice p es.length c, .slice q ps.length d] 54)) := hid (by rw [hW0]; exact heap_two_old _ _)
  have HZ0 : Hid (W0.heap[w.heap.size + 1]? = some (.cells #[.int .i64 0, .map none, .slice none 0 0] 119)) := hid (by rw [hW0]; exact heap_two_new _ _)
  have hz0 : w.heap.size + 1 < W0.heap.size := by rw [hW0]; simp
  have HW0 := hid hW0
  obtain ⟨k0, k1, k2⟩ := three_refs HV0.out
  rw [hW0] at k0 k1 k2
  clear hW0
  by_cases h3 : 0 ≤ num ∧ num ≤ 1000000000
  · have h3' := h3
    obtain ⟨k, rfl⟩ := Int.eq_ofNat_of_zero_le h3.1
    have hk : k ≤ 1000000000 := by omega
    rw [decide_eq_true h3', Bool.true_and] at HPB
    clear h3 h3'
    cases hro : (decide (es.length ≤ 60) && rowsB es es.length) with
    | false =>
      have CX := hid (CN.out hro)
      have HRO := hid hro
      clear CN CY hro
      go_enter Tryd.func73, Tryd.ntmps73
      go_wp2_with (first
        | (go_at_call 130; rw [← HW0.out]; refine (CX.out _ HB0.out).mono ?_; rintro e w1 ⟨rfl, hb1⟩; refine Hid.out ?_)
        | (fail "no arm"))
      refine hid ?_
      have HB1 := hid (HB0.out.trans (hb1.mono HB0.out.size))
      have HV1 := hid ((hb1.block w.heap.size (by omega)).trans HV0.out)
      have HZ1 := hid ((hb1.block (w.heap.size + 1) (by omega)).trans HZ0.out)
      have hz1 := Nat.lt_of_lt_of_le hz0 hb1.size
      clear hb1 k0 k1 k2
      obtain ⟨k0, k1, k2⟩ := three_refs HV1.out
      have CNM := hid (Num.implNumber_yes k hk w1 (HPP.out _ HB1.out))
      generalize (⟨(Num.nameOf k).toArray⟩ : ByteArray) = nm at CNM
      go_wp2_with (first
        | (go_at_call 116; refine CNM.out.mono ?_; rintro e w2 ⟨rfl, hb2⟩; refine Hid.out ?_)
        | (fail "no arm"))
      refine hid ?_
      have HB2 := hid (HB1.out.trans (hb2.mono HB1.out.size))
      have HV2 := hid ((hb2.block w.heap.size (by omega)).trans HV1.out)
      have HZ2 := hid ((hb2.block (w.heap.size + 1) (by omega)).trans HZ1.out)
      have hz2 := Nat.lt_of_lt_of_le hz1 hb2.size
      clear hb2 k0 k1 k2
      obtain ⟨k0, k1, k2⟩ := three_refs HV2.out
      obtain ⟨z0, z1, z2⟩ := three_refs HZ2.out
      have f0 := row4_thaw HZ2.out 0
      have f1 := row4_thaw HZ2.out 1
      have f2 := row4_thaw HZ2.out 2
      go_wp2
      exact bodyPost_ret (v := .tuple #[.agg #[.int .i64 0, .map none, .slice none 0 0], .bool false]) (by simp [results, Tryd.results73, go_sem, z0, z1, z2]) rfl ⟨below_three HB2.out (Nat.le_succ _) _ _ _, Or.inl ⟨by rw [HPB.out]; exact pol_rows_no HRO.out _ _, rfl⟩⟩
    | true =>
      have CX := hid (CY.out hro)
      have HRO := hid hro
      clear CN CY hro
      cases hri : (decide (ps.length ≤ 60) && risB ps ps.length) with
      | false =>
        have HRI := hid hri
        clear hri
        go_enter Tryd.func73, Tryd.ntmps73
        go_wp2_with (first
          | (go_at_call 130; rw [← HW0.out]; refine (CX.out _ HB0.out).mono ?_; rintro e w1 ⟨s, rfl, hb1, hs1, ho1⟩; refine Hid.out ?_)
          | (fail "no arm"))
        refine hid ?_
        have HB1 := hid (HB0.out.trans (hb1.mono HB0.out.size))
        have HV1 := hid ((hb1.block w.heap.size (by omega)).trans HV0.out)
        have HZ1 := hid ((hb1.block (w.heap.size + 1) (by omega)).trans HZ0.out)
        have hz1 := Nat.lt_of_lt_of_le hz0 hb1.size
        clear hb1 k0 k1 k2
        obtain ⟨k0, k1, k2⟩ := three_refs HV1.out
        have CNM := hid (Num.implNumber_yes k hk w1 (HPP.out _ HB1.out))
        generalize (⟨(Num.nameOf k).toArray⟩ : ByteArray) = nm at CNM
        go_wp2_with (first
          | (go_at_call 116; refine CNM.out.mono ?_; rintro e w2 ⟨rfl, hb2⟩; refine Hid.out ?_)
          | (fail "no arm"))
        refine hid ?_
        have HB2 := hid (HB1.out.trans (hb2.mono HB1.out.size))
        have HV2 := hid ((hb2.block w.heap.size (by omega)).trans HV1.out)
        have HZ2 := hid ((hb2.block (w.heap.size + 1) (by omega)).trans HZ1.out)
        have hz2 := Nat.lt_of_lt_of_le hz1 hb2.size
        clear hb2 k0 k1 k2
        obtain ⟨k0, k1, k2⟩ := three_refs HV2.out
        go_wp2_with (first
          | (go_at_call 131; refine (CR.out _ HB2.out).mono ?_; rintro e w3 ⟨rfl, hb3⟩; rw [HRI.out]; refine Hid.out ?_)
          | (fail "no arm"))
        refine hid ?_
        have HB3 := hid (HB2.out.trans (hb3.mono HB2.out.size))
        have HV3 := hid ((hb3.block w.heap.size (by omega)).trans HV2.out)
        have HZ3 := hid ((hb3.block (w.heap.size + 1) (by omega)).trans HZ2.out)
        have hz3 := Nat.lt_of_lt_of_le hz2 hb3.size
        clear hb3 k0 k1 k2
        obtain ⟨k0, k1, k2⟩ := three_refs HV3.out
        obtain ⟨z0, z1, z2⟩ := three_refs HZ3.out
        have f0 := row4_thaw HZ3.out 0
        have f1 := row4_thaw HZ3.out 1
        have f2 := row4_thaw HZ3.out 2
        go_wp2
        exact bodyPost_ret (v := .tuple #[.agg #[.int .i64 0, .map none, .slice none 0 0], .bool false]) (by simp [results, Tryd.results73, go_sem, z0, z1, z2]) rfl ⟨below_three HB3.out (Nat.le_succ _) _ _ _, Or.inl ⟨by rw [HPB.out]; exact pol_ris_no HRI.out _ _, rfl⟩⟩
      | true =>
        have HRI := hid hri
        clear hri
        go_enter Tryd.func73, Tryd.ntmps73
        go_wp2_with (first
          | (go_at_call 130; rw [← HW0.out]; refine (CX.out _ HB0.out).mono ?_; rintro e w1 ⟨s, rfl, hb1, hs1, ho1⟩; refine Hid.out ?_)
          | (fail "no arm"))
        refine hid ?_
        have HB1 := hid (HB0.out.trans (hb1.mono HB0.out.size))
        have HV1 := hid ((hb1.block w.heap.size (by omega)).trans HV0.out)
        have HZ1 := hid ((hb1.block (w.heap.size + 1) (by omega)).trans HZ0.out)
        have hz1 := Nat.lt_of_lt_of_le hz0 hb1.size
        clear hb1 k0 k1 k2
        obtain ⟨k0, k1, k2⟩ := three_refs HV1.out
        have HO1 := hid ho1
        have HS1 := hid hs1
        clear ho1 hs1
        have CNM := hid (Num.implNumber_yes k hk w1 (HPP.out _ HB1.out))
        generalize (⟨(Num.nameOf k).toArray⟩ : ByteArray) = nm at CNM
        go_wp2_with (first
          | (go_at_call 116; refine CNM.out.mono ?_; rintro e w2 ⟨rfl, hb2⟩; refine Hid.out ?_)
          | (fail "no arm"))
        refine hid ?_
        have HB2 := hid (HB1.out.trans (hb2.mono HB1.out.size))
        have HV2 := hid ((hb2.block w.heap.size (by omega)).trans HV1.out)
        have HZ2 := hid ((hb2.block (w.heap.size + 1) (by omega)).trans HZ1.out)
        have hz2 := Nat.lt_of_lt_of_le hz1 hb2.size
        have HO2 := hid (HO1.out.kept (grown_below (row := none) hb2) (by simp))
        clear hb2 k0 k1 k2
        obtain ⟨k0, k1, k2⟩ := three_refs HV2.out
        go_wp2_with (first
          | (go_at_call 131; refine (CR.out _ HB2.out).mono ?_; rintro e w3 ⟨rfl, hb3⟩; rw [HRI.out]; refine Hid.out ?_)
          | (fail "no arm"))
        refine hid ?_
        have HB3 := hid (HB2.out.trans (hb3.mono HB2.out.size))
        have HV3 := hid ((hb3.block w.heap.size (by omega)).trans HV2.out)
        have HZ3 := hid ((hb3.block (w.heap.size + 1) (by omega)).trans HZ2.out)
        have hz3 := Nat.lt_of_lt_of_le hz2 hb3.size
        have HO3 := hid (HO2.out.kept (grown_below (row := none) hb3) (by simp))
        clear hb3 k0 k1 k2
        obtain ⟨k0, k1, k2⟩ := three_refs HV3.out
        have j0 : ∀ W : World, Below (w.heap.size + 1) w3 W → W.cell? ⟨w.heap.size, 0, none⟩ = some (.int .i64 k) := fun W hW => (hW.cell (p := ⟨w.heap.size, 0, none⟩) (by show w.heap.size < w.heap.size + 1; omega)).trans k0
        have j2 : ∀ W : World, Below (w.heap.size + 1) w3 W → W.cell? ⟨w.heap.size, 2, none⟩ = some (.slice q ps.length d) := fun W hW => (hW.cell (p := ⟨w.heap.size, 2, none⟩) (by show w.heap.size < w.heap.size + 1; omega)).trans k2
        go_wp2
        clear k0 k1 k2
        refine wp_region_held_drew (S := fun w' => Below (w.heap.size + 1) w3 w') (by kernel_rfl) (Below.drew (Below.refl _ _)) (fun hHeld => ?_)
        refine take_dst (i := 0) 33 (v := ?_) rfl rfl (by kernel_rfl) (by kernel_rfl) (by kernel_rfl) (fun _ _ _ h => h) (Or.inl ⟨by rfl, ?_⟩) (by assumption) ?_
        case refine_2 => ((intro w hSw); (try dsimp only at hSw); go_simp; (try with_reducible rfl))
        try simp only [Act.put, List.setIfInBounds_toArray, List.set_cons_zero, List.set_cons_succ]
        refine take_dst (i := 1) 34 (v := ?_) rfl rfl (by kernel_rfl) (by kernel_rfl) (by kernel_rfl) (fun _ _ _ h => h) (Or.inl ⟨by rfl, ?_⟩) (by assumption) ?_
        case refine_2 => ((intro w hSw); (try dsimp only at hSw); go_simp; (try with_reducible rfl))
        try simp only [Act.put, List.setIfInBounds_toArray, List.set_cons_zero, List.set_cons_succ]
        refine take_dst (i := 2) 35 (v := ?_) rfl rfl (by kernel_rfl) (by kernel_rfl) (by kernel_rfl) (fun _ _ _ h => h) (Or.inl ⟨by rfl, ?_⟩) (by assumption) ?_
        case refine_2 => ((intro w hSw); (try dsimp only at hSw); go_simp; (try with_reducible rfl))
        try simp only [Act.put, List.setIfInBounds_toArray, List.set_cons_zero, List.set_cons_succ]
        refine take_dst (i := 3) 36 (v := ?_) rfl rfl (by kernel_rfl) (by kernel_rfl) (by kernel_rfl) (fun _ _ _ h => h) (Or.inl ⟨by rfl, ?_⟩) (by assumption) ?_
        case refine_2 => ((intro w hSw); (try dsimp only at hSw); go_simp; (try with_reducible rfl))
        try simp only [Act.put, List.setIfInBounds_toArray, List.set_cons_zero, List.set_cons_succ]
        refine take_dst (i := 4) 37 (v := ?_) rfl rfl (by kernel_rfl) (by kernel_rfl) (by kernel_rfl) (fun _ _ _ h => h) (Or.inl ⟨by rfl, ?_⟩) (by assumption) ?_
        case refine_2 => ((intro w hSw); (try dsimp only at hSw); go_simp; (try with_reducible rfl))
        try simp only [Act.put, List.setIfInBounds_toArray, List.set_cons_zero, List.set_cons_succ]
        refine wpAnyH_ready (rs := [5]) (by kernel_rfl) (by simp) ?_
        refine AllReadyH.cons rfl (fun K hK => ?_) AllReadyH.nil
        go_simp
        go_at_call 132
        refine (CC.out _ (HB3.out.trans ((Below.drew (Below.refl _ _)).mono HB3.out.size))).mono ?_
        rintro e w4 ⟨v, rfl, ⟨p4, c4, rfl, hv4⟩, hb4⟩
        go_wp2_with fail
        have hb4' := pol_step (Below.refl w3.heap.size w3) (Nat.le_refl _) hb4
        have HB4 := hid (HB3.out.trans (hb4'.mono HB3.out.size))
        have HZ4 := hid ((hb4'.block (w.heap.size + 1) (by omega)).trans HZ3.out)
        have HO4 := hid (HO3.out.kept (grown_below (row := none) hb4') (by simp))
        have hS4 : Below (w.heap.size + 1) w3 w4 := hb4'.mono (by omega)
        refine hK.out _ _ hS4 (fun hHeld => ?_)
        clear hK K
        try simp only [Act.put, List.setIfInBounds_toArray, List.set_cons_zero, List.set_cons_succ]
        refine take_dst (i := 6) 39 (v := ?_) rfl rfl (by kernel_rfl) (by kernel_rfl) (by kernel_rfl) (fun _ _ _ h => h) (Or.inl ⟨by rfl, ?_⟩) (by assumption) ?_
        case refine_2 => ((intro w hSw); (try dsimp only at hSw); go_simp; (try with_reducible rfl))
        try simp only [Act.put, List.setIfInBounds_toArray, List.set_cons_zero, List.set_cons_succ]
        refine wpAnyH_ready (rs := [7]) (by kernel_rfl) (by simp) ?_
        refine AllReadyH.cons rfl (fun K hK => ?_) AllReadyH.nil
        obtain ⟨z0, z1, z2⟩ := three_refs HZ4.out
        have f0 := row4_thaw HZ4.out 0
        have f1 := row4_thaw HZ4.out 1
        have f2 := row4_thaw HZ4.out 2
        go_simp
        refine hK.out _ _ (below_three hHeld (Nat.le_refl _) _ _ _) (fun hHeld => ?_)
        clear hK K
        try simp only [Act.put, List.setIfInBounds_toArray, List.set_cons_zero, List.set_cons_succ]
        refine take_dst (i := 8) 3 (v := ?_) rfl rfl (by kernel_rfl) (by kernel_rfl) (by kernel_rfl) (fun _ _ _ h => h) (Or.inl ⟨by rfl, ?_⟩) (by assumption) ?_
        case refine_2 => ((intro w hSw); (try dsimp only at hSw); go_simp; (try with_reducible rfl))
        try simp only [Act.put, List.setIfInBounds_toArray, List.set_cons_zero, List.set_cons_succ]
        refine wpAnyH_done (by kernel_rfl) ?_ _
        have HTX := hid (texts_set HZ4.out (show TextsAt w4 (.slice p4 ps.length c4) ps from ⟨p4, c4, rfl, hv4⟩))
        clear hb4 hb4' hv4 hHeld
        go_wp2
        exact bodyPost_ret (v := .tuple #[.agg #[.int .i64 k, .map (some s), .slice p4 ps.length c4], .bool true]) (by simp [results, Tryd.results73, go_sem, z0, z1, z2]) rfl ⟨below_three HB4.out (Nat.le_succ _) _ _ _, Or.inr ⟨by rw [HPB.out]; exact pol_all HRO.out HRI.out, s, p4, c4, rfl, Nat.le_trans HB0.out.size HS1.out, ((HO4.out.setCell (by show s ≠ w.heap.size + 1; have := HS1.out; omega) _).setCell (by show s ≠ w.heap.size + 1; have := HS1.out; omega) _).setCell (by show s ≠ w.heap.size + 1; have := HS1.out; omega) _, HTX.out _ _ _⟩⟩
  · have HNN := hid h3
    rw [decide_eq_false h3, Bool.false_and] at HPB
    clear h3
    cases hro : (decide (es.length ≤ 60) && rowsB es es.length) with
    | false =>
      have CX := hid (CN.out hro)
      clear CN CY hro
      go_enter Tryd.func73, Tryd.ntmps73
      go_wp2_with (first
        | (go_at_call 130; rw [← HW0.out]; refine (CX.out _ HB0.out).mono ?_; rintro e w1 ⟨rfl, hb1⟩; refine Hid.out ?_)
        | (fail "no arm"))
      refine hid ?_
      have HB1 := hid (HB0.out.trans (hb1.mono HB0.out.size))
      have HV1 := hid ((hb1.block w.heap.size (by omega)).trans HV0.out)
      have HZ1 := hid ((hb1.block (w.heap.size + 1) (by omega)).trans HZ0.out)
      have hz1 := Nat.lt_of_lt_of_le hz0 hb1.size
      clear hb1 k0 k1 k2
      obtain ⟨k0, k1, k2⟩ := three_refs HV1.out
      go_wp2_with (first
        | (go_at_call 116; refine (Num.implNumber_no _ HNN.out _).mono ?_; rintro e w2 ⟨rfl, e2⟩; rw [e2]; clear e2 w2; refine Hid.out ?_)
        | (fail "no arm"))
      refine hid ?_
      obtain ⟨z0, z1, z2⟩ := three_refs HZ1.out
      have f0 := row4_thaw HZ1.out 0
      have f1 := row4_thaw HZ1.out 1
      have f2 := row4_thaw HZ1.out 2
      go_wp2
      exact bodyPost_ret (v := .tuple #[.agg #[.int .i64 0, .map none, .slice none 0 0], .bool false]) (by simp [results, Tryd.results73, go_sem, z0, z1, z2]) rfl ⟨below_three HB1.out (Nat.le_succ _) _ _ _, Or.inl ⟨HPB.out, rfl⟩⟩
    | true =>
      have CX := hid (CY.out hro)
      clear CN CY hro
      go_enter Tryd.func73, Tryd.ntmps73
      go_wp2_with (first
        | (go_at_call 130; rw [← HW0.out]; refine (CX.out _ HB0.out).mono ?_; rintro e w1 ⟨s, rfl, hb1, hs1, ho1⟩; refine Hid.out ?_)
        | (fail "no arm"))
      refine hid ?_
      have HB1 := hid (HB0.out.trans (hb1.mono HB0.out.size))
      have HV1 := hid ((hb1.block w.heap.size (by omega)).trans HV0.out)
      have HZ1 := hid ((hb1.block (w.heap.size + 1) (by omega)).trans HZ0.out)
      have hz1 := Nat.lt_of_lt_of_le hz0 hb1.size
      clear hb1 k0 k1 k2
      obtain ⟨k0, k1, k2⟩ := three_refs HV1.out
      go_wp2_with (first
        | (go_at_call 116; refine (Num.implNumber_no _ HNN.out _).mono ?_; rintro e w2 ⟨rfl, e2⟩; rw [e2]; clear e2 w2; refine Hid.out ?_)
        | (fail "no arm"))
      refine hid ?_
      obtain ⟨z0, z1, z2⟩ := three_refs HZ1.out
      have f0 := row4_thaw HZ1.out 0
      have f1 := row4_thaw HZ1.out 1
      have f2 := row4_thaw HZ1.out 2
      go_wp2
      exact bodyPost_ret (v := .tuple #[.agg #[.int .i64 0, .map none, .slice none 0 0], .bool false]) (by simp [results, Tryd.results73, go_sem, z0, z1, z2]) rfl ⟨below_three HB1.out (Nat.le_succ _) _ _ _, Or.inl ⟨HPB.out, rfl⟩⟩
end Go.Proofs.YtponjghppnpnhaaDoor

namespace Go.Proofs.YtponjghppnpnhaaDoor
open Go.RowKit Go.Maps
open Go.Lib (hid)

theorem rows_fit {es : List RefD} (h : ∀ e ∈ es, tameRef e) : RowsFit es := by
  intro i hi
  rw [ref_at hi]
  have h2 := h es[i] (List.getElem_mem hi)
  exact ⟨h2.2.1, h2.1⟩

theorem openPol_no {num : Int} {es : List RefD} {ps : List (List UInt8)} (hr : polB num es ps = false) (hn : es.length ≤ 1048576) (hf : RowsFit es) (hm : ps.length ≤ 1048576) (a b : Value) (w : World) (ha : FRow encRef 3 w a es) (hb : TextsAt w b ps) (hT : Tab w) (hG : 0 < w.heap.size) (hP : Lib.TabIs Tryd.prog w "internal/strconv.uint64pow10" .u64 Lib.pow10Tab) :
    Calls Tryd.prog 73 #[.agg #[.int .i64 num, a, b]] w fun e w' => e = .returned (.tuple #[.agg #[.int .i64 0, .map none, .slice none 0 0], .bool false]) ∧ Below w.heap.size w w' :=
  (openPol_calls (H := Unit) num es hn hf ps hm a b w ha hb hT hG hP).mono fun e w' h => by
    unfold OpenPolPost at h
    rcases h with ⟨hb, ⟨_, he⟩ | ⟨hy, _⟩⟩
    · exact ⟨he, hb⟩
    · rw [hr] at hy; cases hy

theorem openPol_yes {H : Type} {num : Int} {es : List RefD} {ps : List (List UInt8)} (hr : polB num es ps = true) (hn : es.length ≤ 1048576) (hf : RowsFit es) (hm : ps.length ≤ 1048576) (a b : Value) (w : World) (ha : FRow encRef 3 w a es) (hb : TextsAt w b ps) (hT : Tab w) (hG : 0 < w.heap.size) (hP : Lib.TabIs Tryd.prog w "internal/strconv.uint64pow10" .u64 Lib.pow10Tab) :
    Calls Tryd.prog 73 #[.agg #[.int .i64 num, a, b]] w fun e w' => ∃ s p4 c4, e = .returned (.tuple #[.agg #[.int .i64 num, .map (some s), .slice p4 ps.length c4], .bool true]) ∧ Below w.heap.size w w' ∧ w.heap.size ≤ s ∧ w'.ownsMap Tryd.prog 178 (rowElem (H := H)) s es.length (rowsD es es.length) ∧ TextsAt w' (.slice p4 ps.length c4) ps :=
  (openPol_calls (H := H) num es hn hf ps hm a b w ha hb hT hG hP).mono fun e w' h => by
    unfold OpenPolPost at h
    rcases h with ⟨hb, ⟨hy, _⟩ | ⟨_, s, p4, c4, he, hs, ho⟩⟩
    · rw [hr] at hy; cases hy
    · exact ⟨s, p4, c4, he, hb, hs, ho.1, ho.2⟩

set_option maxRecDepth 20000 in
set_option maxHeartbeats 2000000 in
theorem pol_impl (num : Int) (es : List RefD) (hn : es.length ≤ 1048576) (hf : RowsFit es) (ps : List (List UInt8)) (hm : ps.length ≤ 1048576) (a b : Value) (w : World) (ha : FRow encRef 3 w a es) (hb : TextsAt w b ps) (hT : Tab w) (hG : 0 < w.heap.size) (hP : Lib.TabIs Tryd.prog w "internal/strconv.uint64pow10" .u64 Lib.pow10Tab) :
    Calls Tryd.prog 148 #[.agg #[.int .i64 num, a, b]] w fun e w' => e = .returned (.bool (polB num es ps)) ∧ Below w.heap.size w w' := by
  have CN := hid (fun hr W (hB : Below w.heap.size w W) => openPol_no (num := num) (es := es) (ps := ps) hr hn hf hm a b W (ha.on hB) (hb.on hB) (tab_on hT hG hB) (Nat.lt_of_lt_of_le hG hB.size) (Num.tab_stays hB hP))
  have CY := hid (fun hr W (hB : Below w.heap.size w W) => openPol_yes (H := Unit) (num := num) (es := es) (ps := ps) hr hn hf hm a b W (ha.on hB) (hb.on hB) (tab_on hT hG hB) (Nat.lt_of_lt_of_le hG hB.size) (Num.tab_stays hB hP))
  obtain ⟨p, c, rfl, _, hrest⟩ := ha
  obtain ⟨q, d, rfl, hrest2⟩ := hb
  clear hrest hrest2 hT hP hG hf
  obtain ⟨W0, hW0⟩ : ∃ W0, W0 = w.alloc (.cells #[.int .i64 num, .slice p es.length c, .slice q ps.length d] 54) := ⟨_, rfl⟩
  have HB0 : Hid (Below w.heap.size w W0) := hid (by rw [hW0]; exact (Below.refl _ _).alloc (Nat.le_refl _) _)
  have HW0 := hid hW0
  clear hW0
  cases hr : polB num es ps with
  | false =>
    have C := hid (CN.out hr)
    clear CN CY hr
    go_enter Tryd.func148, Tryd.ntmps148
    go_wp2_with (go_at_call 73; rw [← HW0.out]; refine (C.out _ HB0.out).mono ?_; rintro e w1 ⟨rfl, hb1⟩; refine Hid.out ?_)
    refine hid ?_
    have HB1 := hid (HB0.out.trans (hb1.mono HB0.out.size))
    clear hb1
    go_wp2
    go_ret
    exact ⟨rfl, HB1.out.alloc HB1.out.size _⟩
  | true =>
    have C := hid (CY.out hr)
    clear CN CY hr
    go_enter Tryd.func148, Tryd.ntmps148
    go_wp2_with (go_at_call 73; rw [← HW0.out]; refine (C.out _ HB0.out).mono ?_; rintro e w1 ⟨s, p4, c4, rfl, hb1, _, _, _⟩; refine Hid.out ?_)
    refine hid ?_
    have HB1 := hid (HB0.out.trans (hb1.mono HB0.out.size))
    clear hb1
    go_wp2
    go_ret
    exact ⟨rfl, HB1.out.alloc HB1.out.size _⟩
end Go.Proofs.YtponjghppnpnhaaDoor
