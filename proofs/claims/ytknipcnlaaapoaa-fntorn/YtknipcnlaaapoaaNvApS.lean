/- The specification's NvApply, where the writes are done. -/
import Derived.Test.YtknipcnlaaapoaaNvApS0
import Derived.OneCell
namespace Go.Proofs.Ytknipcnlaaapoaa
open Go.RowKit
open Go.Lib (hid)

theorem own_other {w : World} {base size n g c b : Nat} {e : TypeId} {xs : List Value} (h : w.ownsRow base e size (.slice (some ⟨g, 0, none⟩) n c) n xs) (hne : b ≠ g) (o : Nat) (u : Value) : (w.setCell ⟨b, o, none⟩ u).ownsRow base e size (.slice (some ⟨g, 0, none⟩) n c) n xs :=
  ownsRow_setCell_other h (a := ⟨b, o, none⟩) (fun e => hne (Option.some.inj e).symm) u

/-- What stands while the specification's NvApply writes: its own Nv, with words of its own. -/
structure SOut (w : World) (V : Array Value) (s : Int) (bo g cap : Nat) (L : List Int) (W : World) : Prop where
  box : Boxes w V W
  out : W.heap[bo]? = some (.cells #[.int .i64 s, .slice (some ⟨g, 0, none⟩) L.length cap] 26)
  row : W.ownsRow (w.heap.size + 2) 2 1 (.slice (some ⟨g, 0, none⟩) L.length cap) L.length (ints L)
  ord : w.heap.size + 2 ≤ bo ∧ bo < W.heap.size ∧ bo ≠ g

theorem SOut.put {w : World} {V : Array Value} {s : Int} {bo g cap : Nat} {L : List Int} {W : World} (h : SOut w V s bo g cap L W) (X : Nat) (y : Int) : SOut w V s bo g cap (L.set X y) (W.setCell ⟨g, X, none⟩ (.int .i64 y)).drew := by
  have o := h.ord
  have hg := (h.row.lt g rfl).1
  have hz := h.box.size
  have hs := (h.row.stored X (.int .i64 y)).1
  rw [ints_set] at hs
  refine ⟨⟨?_, ?_, ?_, ?_⟩, ?_, ?_, o.1, ?_, o.2.2⟩
  · show (W.setCell ⟨g, X, none⟩ (.int .i64 y)).heap[w.heap.size]? = _
    rw [Below.heap_setCell _ _ _ _ (by show w.heap.size ≠ g; omega)]; exact h.box.v
  · show (W.setCell ⟨g, X, none⟩ (.int .i64 y)).heap[w.heap.size + 1]? = _
    rw [Below.heap_setCell _ _ _ _ (by show w.heap.size + 1 ≠ g; omega)]; exact h.box.z
  · exact Below.drew (h.box.below.setCell (p := ⟨g, X, none⟩) (by show w.heap.size ≤ g; omega) _)
  · simp; exact hz
  · rw [List.length_set]
    show (W.setCell ⟨g, X, none⟩ (.int .i64 y)).heap[bo]? = _
    rw [Below.heap_setCell _ _ _ _ o.2.2]; exact h.out
  · rw [List.length_set]
    exact hs.drew
  · simp; exact o.2.1

set_option maxRecDepth 20000 in
set_option maxHeartbeats 4000000 in
theorem sapply_yes (s : Int) (l : List Int) (hl : l.length ≤ 1048576) (n : Nat) (F : List Int) (cnt : Int) (hf : formB s l = true) (hcz : ¬ cnt < 0) (hcn : cnt ≤ 9223372036854775807) (h100 : ¬ (n : Int) > 100) (hall : (List.range n).all (wokB l.length F) = true) (a b : Value) (w : World) (ha : RowIn w a l) (hb : WRow w b n F) :
    Calls Try.prog 14 #[.agg #[.int .i64 s, a], b, .int .i64 cnt] w fun e w' => ∃ sv, e = .returned (.tuple #[.agg #[.int .i64 s, sv], .bool true]) ∧ Below w.heap.size w w' ∧ w'.ownsRow w.heap.size 2 1 sv (doneW F l (min cnt.toNat n)).length (ints (doneW F l (min cnt.toNat n))) := by
  have HA := hid ha
  have CF := hid (fun a W (hW : RowIn W a l) => l3Formed_calls s l hl a W hW)
  rw [hf] at CF
  have hlen : 6 ≤ l.length := by
    obtain ⟨h1, _, h3, _⟩ := formB_iff.1 hf
    omega
  obtain ⟨p, c, rfl, hc, hp⟩ := ha
  obtain ⟨g0, o0, rfl, _, _⟩ := hp (fun e => by rw [e] at hlen; simp at hlen)
  obtain ⟨hF, q, d, rfl, _, hq⟩ := hb
  have HQ := hid hq
  have HF := hid hF
  have HALL := hid hall
  have HX := hid (boxes_first w #[.int .i64 s, .slice (some ⟨g0, o0, none⟩) l.length c])
  obtain ⟨W0, hW0⟩ : ∃ W0, W0 = (w.alloc (.cells #[.int .i64 s, .slice (some ⟨g0, o0, none⟩) l.length c] 26)).alloc (.cells #[.int .i64 0, .slice none 0 0] 26) := ⟨_, rfl⟩
  rw [← hW0] at HX
  have HW0 := hid hW0
  clear hW0 hq hF hf hall hp
  go_enter Try.func14, Try.ntmps14
  go_wp2_with (go_at_call 30; rw [← HW0.out]; refine (CF.out _ _ (HA.out.on HX.out.below)).mono ?_; rintro e w1 ⟨rfl, hb1⟩; refine Hid.out ?_)
  refine hid ?_
  have HX1 := hid (HX.out.on hb1)
  clear hb1
  go_wp2
  go_loopw [8] (fun iv wr => ∃ i : Nat, i ≤ n ∧ iv = .int .i64 i ∧ Boxes w #[.int .i64 s, .slice (some ⟨g0, o0, none⟩) l.length c] wr ∧ (List.range i).all (wokB l.length F) = true) (fun iv _ => n - (RowKit.intOf iv).toNat)
  case atStart => exact ⟨0, Nat.zero_le _, rfl, HX1.out, rfl⟩
  case round =>
    obtain ⟨i, hi, rfl, hbox, hall⟩ := hrel
    have HB := hid hbox
    have HAI := hid hall
    have hz := hbox.size
    obtain ⟨k0, k1⟩ := var_cells hbox.v
    by_cases hlt : i < n
    · obtain ⟨g2, o, rfl, hg, hc2⟩ := HQ.out (by omega)
      have a0 := hc2 (i * 2) (by have := HF.out; omega)
      have a1 := hc2 (i * 2 + 1) (by have := HF.out; omega)
      have HGX : Hid (F.getD (i * 2) 0 = F[i * 2]'(by have := HF.out; omega)) := hid (by have := HF.out; simp [List.getD, show i * 2 < F.length by omega])
      have HGY : Hid (F.getD (i * 2 + 1) 0 = F[i * 2 + 1]'(by have := HF.out; omega)) := hid (by have := HF.out; simp [List.getD, show i * 2 + 1 < F.length by omega])
      have hx : wr.cell? ⟨g2, o + i * 2, none⟩ = some (.int .i64 (F[i * 2]'(by have := HF.out; omega))) := by rw [hbox.below.cell (p := ⟨g2, o + i * 2, none⟩) hg]; exact a0
      have hy : wr.cell? ⟨g2, o + i * 2 + 1, none⟩ = some (.int .i64 (F[i * 2 + 1]'(by have := HF.out; omega))) := by rw [hbox.below.cell (p := ⟨g2, o + i * 2 + 1, none⟩) hg, Nat.add_assoc]; exact a1
      have hgz : g2 < wr.heap.size := Nat.lt_of_lt_of_le hg hbox.below.size
      clear hc2 a0 a1 hbox hall
      generalize F[i * 2]'_ = x at *
      generalize F[i * 2 + 1]'_ = y at *
      have b1 : (0 : Int) ≤ (i : Int) := by omega
      have b2 : (i : Int) < (n : Int) := by omega
      have C1 := hid (fun W => nin_calls x 0 ((l.length : Int) - 1) W)
      have C2 := hid (fun W => nin_calls y 0 1000000000 W)
      have HOK : Hid (wokB l.length F i = true) := hid (List.all_eq_true.1 HALL.out i (List.mem_range.2 hlt))
      have ht : (0 ≤ x ∧ x ≤ (l.length : Int) - 1) ∧ (0 ≤ y ∧ y ≤ 1000000000) := by
        have h := HOK.out
        unfold wokB at h
        rw [HGX.out, HGY.out] at h
        simp only [Bool.and_eq_true, Bool.not_eq_true', decide_eq_false_iff_not] at h
        omega
      rw [decide_eq_true ht.1] at C1
      rw [decide_eq_true ht.2] at C2
      clear ht
      go_wp2
      go_quiet ((first | (go_at_call_of 31 (Value.int .i64 x); exact Calls.quiet_of_same (C1.out _)) | (go_at_call_of 31 (Value.int .i64 y); exact Calls.quiet_of_same (C2.out _))))
      go_wp2
      go_roundw
      case rel => exact ⟨i + 1, by omega, by go_num, HB.out.on (below_drewN (Below.refl _ _) nq), by rw [List.range_succ, List.all_append, HAI.out]; simp [HOK.out]⟩
      case measure => simp [RowKit.intOf]; omega
    · have hie : i = n := by omega
      subst hie
      clear hbox hall
      go_wp2
      go_cut [9] (fun pv wx => ∃ bo g cap, pv = .pointer (some ⟨bo, 0, none⟩) ∧ Hid (SOut w #[.int .i64 s, .slice (some ⟨g0, o0, none⟩) l.length c] s bo g cap l wx))
      case first =>
        have k0 : ∀ W : World, Below wr.heap.size wr W → W.cell? ⟨w.heap.size, 0, none⟩ = some (.int .i64 s) := fun W hW => (hW.cell (p := ⟨w.heap.size, 0, none⟩) (by show w.heap.size < _; omega)).trans k0
        have k1 : ∀ W : World, Below wr.heap.size wr W → W.cell? ⟨w.heap.size, 1, none⟩ = some (.slice (some ⟨g0, o0, none⟩) l.length c) := fun W hW => (hW.cell (p := ⟨w.heap.size, 1, none⟩) (by show w.heap.size < _; omega)).trans k1
        have HROW := hid (fun W (hW : Below wr.heap.size wr W) => HA.out.on (HB.out.below.trans (hW.mono HB.out.below.size)))
        have b7 : 0 < l.length := by omega
        have b8 : 0 + l.length ≤ 1000000000 := by omega
        go_region_held3 (fun w' => Below wr.heap.size wr w') (first | with_reducible assumption | exact hB6 | exact Below.drew (Below.refl _ _) | exact Below.alloc hB6 hB6.size _ | exact Below.alloc (by with_reducible assumption) (by simp) _ | exact Below.alloc (Below.drew (Below.refl _ _)) (by simp) _ | exact Below.setCell (Below.setCell hB6 (by simp) _) (by simp) _ | exact Below.alloc (Below.alloc (Below.drew (Below.refl _ _)) (by simp) _) (by simp; omega) _) ((refine step_append_ints rfl (.tmp 53) (.tmp 55) (by rfl) (w.heap.size + 2) _ 0 [] (by rfl) (by first | exact own_empty _ _ (by first | omega | (simp; omega)) | exact (own_empty _ _ (by first | omega | (simp; omega))).drew | exact (own_below (own_empty _ _ (by first | omega | (simp; omega))) ((Below.refl _ _).alloc (Nat.le_refl _) _)).drew | exact own_empty2 _ _ _ (by omega)) g0 o0 c l b7 (by rfl) (HROW.out _ (by with_reducible assumption)) b8 (by first | omega | (simp; omega)) ?_; intro v6 w6 ho6 hg6; have hB6 : Below wr.heap.size wr w6 := (by first | exact Below.grown (by with_reducible assumption) hg6 (by first | (simp; done) | (simp; omega)) (fun k hk => by cases hk; first | exact Nat.le_refl _ | (simp; done) | (simp; omega))); rw [Nat.zero_add, List.nil_append] at ho6; obtain ⟨g6, c6, rfl, hb6, hl6⟩ := own_form ho6 b7; try (first | have hbo := after_append hg6 (b := wr.heap.size + 1) (o := .cells #[.int .i64 0, .slice none 0 0] 26) (heap_two_new _ _) rfl (by show wr.heap.size + 1 ≠ wr.heap.size; omega) | have hbo := after_append hg6 (b := wr.heap.size) (o := .cells #[.int .i64 0, .slice none 0 0] 26) (heap_two_old _ _) rfl (by show wr.heap.size ≠ wr.heap.size + 1; omega)); try (obtain ⟨q0, q1⟩ := var_cells hbo; have q2 := var_thaw hbo 0; have q3 := var_thaw hbo 1; have hbz := (Array.getElem?_eq_some_iff.1 hbo).1)))
        · rename_i hS
          go_wp2
          go_meet
          case rel => exact ⟨_, _, _, rfl, hid ⟨HB.out.on hS, heap_alloc_new _ _, own_below ho6 ((Below.refl _ _).alloc (Nat.le_refl _) _), by omega, by simp, by omega⟩⟩
        · rename_i hS
          have hne := own_ne ho6 hbo (by decide)
          go_wp2
          go_meet
          case rel => exact ⟨_, _, _, rfl, hid ⟨HB.out.on hS, two_set hbo _ _, own_other (own_other ho6 hne _ _) hne _ _, by omega, by simp; exact hbz, hne⟩⟩
        · rename_i hS
          have hne := own_ne ho6 hbo (by decide)
          go_wp2
          go_meet
          case rel => exact ⟨_, _, _, rfl, hid ⟨HB.out.on hS, two_set hbo _ _, own_other (own_other ho6 hne _ _) hne _ _, by omega, by simp; exact hbz, hne⟩⟩
      case rest =>
        obtain ⟨bo, g, cap, rfl, HO⟩ := hcut
        clear k0 k1 hz
        go_wp2
        go_loopw [10] (fun jv wr => ∃ j : Nat, j ≤ i ∧ j ≤ cnt.toNat ∧ jv = .int .i64 j ∧ SOut w #[.int .i64 s, .slice (some ⟨g0, o0, none⟩) l.length c] s bo g cap (doneW F l j) wr) (fun jv _ => i - (RowKit.intOf jv).toNat)
        case atStart => exact ⟨0, Nat.zero_le _, Nat.zero_le _, rfl, HO.out⟩
        case round =>
          obtain ⟨j, hj, hjc, rfl, hso⟩ := hrel
          have HS := hid hso
          by_cases hjt : j < i ∧ (j : Int) < cnt
          · obtain ⟨hjl, hjn⟩ := hjt
            obtain ⟨g2, o, rfl, hg, hc2⟩ := HQ.out (by omega)
            have a0 := hc2 (j * 2) (by have := HF.out; omega)
            have a1 := hc2 (j * 2 + 1) (by have := HF.out; omega)
            have HGX : Hid (F.getD (j * 2) 0 = F[j * 2]'(by have := HF.out; omega)) := hid (by have := HF.out; simp [List.getD, show j * 2 < F.length by omega])
            have HGY : Hid (F.getD (j * 2 + 1) 0 = F[j * 2 + 1]'(by have := HF.out; omega)) := hid (by have := HF.out; simp [List.getD, show j * 2 + 1 < F.length by omega])
            have hx : wr.cell? ⟨g2, o + j * 2, none⟩ = some (.int .i64 (F[j * 2]'(by have := HF.out; omega))) := by rw [hso.box.below.cell (p := ⟨g2, o + j * 2, none⟩) hg]; exact a0
            have hy : wr.cell? ⟨g2, o + j * 2 + 1, none⟩ = some (.int .i64 (F[j * 2 + 1]'(by have := HF.out; omega))) := by rw [hso.box.below.cell (p := ⟨g2, o + j * 2 + 1, none⟩) hg, Nat.add_assoc]; exact a1
            have HDW : Hid (doneW F l (j + 1) = (doneW F l j).set (F[j * 2]'(by have := HF.out; omega)).toNat (F[j * 2 + 1]'(by have := HF.out; omega))) := hid (by show (doneW F l j).set _ _ = _; rw [HGX.out, HGY.out])
            have hin : 0 ≤ F.getD (j * 2) 0 ∧ F.getD (j * 2) 0 < (l.length : Int) := by
              have h := List.all_eq_true.1 HALL.out j (List.mem_range.2 hjl)
              unfold wokB at h
              simp only [Bool.and_eq_true, Bool.not_eq_true', decide_eq_false_iff_not] at h
              omega
            rw [HGX.out] at hin
            clear hc2 a0 a1
            generalize F[j * 2]'_ = x at *
            generalize F[j * 2 + 1]'_ = y at *
            obtain ⟨X, rfl⟩ := Int.eq_ofNat_of_zero_le hin.1
            have hXl : X < (doneW F l j).length := by rw [doneW_len]; omega
            have hrc := hso.row.cellAt X (by omega)
            rw [ints_at _ X hXl] at hrc
            obtain ⟨z, hz0⟩ : ∃ z, (doneW F l j)[X] = z := ⟨_, rfl⟩
            rw [hz0] at hrc
            have hrf := hso.row.frozenAt X
            obtain ⟨q0, q1⟩ := var_cells hso.out
            rw [doneW_len] at q1
            have b1 : (0 : Int) ≤ (j : Int) := by omega
            have b2 : (j : Int) < (i : Int) := by omega
            have b3 : (0 : Int) ≤ (X : Int) := by omega
            have b4 : (X : Int) < (l.length : Int) := by omega
            have n1 := hso.ord.2.2
            have n2 : g2 ≠ g := by have := (hso.row.lt g rfl).1; omega
            have hgl := (hso.row.lt g rfl).2
            have hd1 : decide ((j : Int) < cnt) = true := decide_eq_true hjn
            clear hin hso hz0 hXl
            go_wp2
            go_region
            go_wp2
            go_roundw
            case rel => exact ⟨j + 1, by omega, by omega, by go_num, by rw [HDW.out]; exact HS.out.put X y⟩
            case measure => simp [RowKit.intOf]; omega
          · by_cases hjl : j < i
            · have hjn : ¬ (j : Int) < cnt := by omega
              have HM : Hid (doneW F l j = doneW F l (min cnt.toNat i)) := hid (congrArg (doneW F l) (by omega))
              have hzw := hso.box.size
              have hbz := hso.ord.2.1
              have hwb := hso.ord.1
              have hd1 : decide ((j : Int) < cnt) = false := by simp; omega
              obtain ⟨q0, q1⟩ := var_cells hso.out
              rw [doneW_len] at q1
              obtain ⟨k2, k3⟩ := var_cells hso.box.z
              have f2 := var_thaw hso.box.z 0
              have f3 := var_thaw hso.box.z 1
              clear hso
              go_wp2
              refine bodyPost_ret (v := .tuple #[.agg #[.int .i64 s, .slice (some ⟨g, 0, none⟩) l.length cap], .bool true]) (by simp [results, Try.results14, go_sem, k2, k3]) rfl ⟨_, rfl, HS.out.box.stays _ _, ?_⟩
              have h6 := ownsRow_setCell_below (ownsRow_setCell_below HS.out.row (a := ⟨w.heap.size + 1, 0, none⟩) (by show w.heap.size + 1 < _; omega) (.int .i64 s)) (a := ⟨w.heap.size + 1, 1, none⟩) (by show w.heap.size + 1 < _; omega) (.slice (some ⟨g, 0, none⟩) (doneW F l j).length cap)
              rw [← HM.out]
              rw [doneW_len] at h6 ⊢
              exact own_raise h6 (by omega)
            · have hje : j = i := by omega
              subst hje
              have HM : Hid (doneW F l j = doneW F l (min cnt.toNat j)) := hid (congrArg (doneW F l) (by omega))
              have hzw := hso.box.size
              have hbz := hso.ord.2.1
              have hwb := hso.ord.1
              obtain ⟨q0, q1⟩ := var_cells hso.out
              rw [doneW_len] at q1
              obtain ⟨k2, k3⟩ := var_cells hso.box.z
              have f2 := var_thaw hso.box.z 0
              have f3 := var_thaw hso.box.z 1
              clear hso
              go_wp2
              refine bodyPost_ret (v := .tuple #[.agg #[.int .i64 s, .slice (some ⟨g, 0, none⟩) l.length cap], .bool true]) (by simp [results, Try.results14, go_sem, k2, k3]) rfl ⟨_, rfl, HS.out.box.stays _ _, ?_⟩
              have h6 := ownsRow_setCell_below (ownsRow_setCell_below HS.out.row (a := ⟨w.heap.size + 1, 0, none⟩) (by show w.heap.size + 1 < _; omega) (.int .i64 s)) (a := ⟨w.heap.size + 1, 1, none⟩) (by show w.heap.size + 1 < _; omega) (.slice (some ⟨g, 0, none⟩) (doneW F l j).length cap)
              rw [← HM.out]
              rw [doneW_len] at h6 ⊢
              exact own_raise h6 (by omega)

/-- The specification's NvApply, whatever it is given. -/
theorem apply_spec (s : Int) (l : List Int) (hl : l.length ≤ 1048576) (n : Nat) (F : List Int) (cnt : Int) (hcn : cnt ≤ 9223372036854775807) (a b : Value) (w : World) (ha : RowIn w a l) (hb : WRow w b n F) :
    Calls Try.prog 14 #[.agg #[.int .i64 s, a], b, .int .i64 cnt] w (ApplyPost s l n F cnt w) := by
  unfold ApplyPost applyOut
  by_cases h : applyB s l n F cnt = true
  · rw [if_pos h]
    unfold applyB canB at h
    simp only [Bool.and_eq_true, Bool.not_eq_true', decide_eq_false_iff_not] at h
    exact sapply_yes s l hl n F cnt h.1.1 h.1.2 hcn h.2.1 h.2.2 a b w ha hb
  · rw [if_neg h]
    have hno : Calls Try.prog 14 #[.agg #[.int .i64 s, a], b, .int .i64 cnt] w fun e w' => e = .returned (.tuple #[.agg #[.int .i64 0, .slice none 0 0], .bool false]) ∧ Below w.heap.size w w' := by
      by_cases h1 : formB s l = false ∨ cnt < 0 ∨ n > 100
      · exact sapply_first s l hl n F cnt h1 a b w ha hb
      · have hf : formB s l = true := by
          cases hf : formB s l with
          | true => rfl
          | false => exact absurd (Or.inl hf) h1
        refine sapply_bad s l hl n F cnt hf (by omega) (by omega) ?_ a b w ha hb
        rw [Bool.eq_false_iff]
        intro hall
        apply h
        unfold applyB canB
        rw [hf, hall, decide_eq_false (by omega), decide_eq_false (by omega)]
        rfl
    exact hno.mono fun e w' ⟨he, hb⟩ => ⟨_, he, hb, World.ownsRow_nil _ _ _ _⟩
end Go.Proofs.Ytknipcnlaaapoaa
