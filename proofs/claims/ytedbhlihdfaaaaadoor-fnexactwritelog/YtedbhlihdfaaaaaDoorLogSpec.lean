/- WriteLog, the specification's. -/
import Derived.Test.YtedbhlihdfaaaaaDoorLogPut
import Derived.Test.YtedbhlihdfaaaaaDoorInAny
import Derived.Test.YtedbhlihdfaaaaaDoorFaceKind
namespace Go.Proofs.YtedbhlihdfaaaaaDoor
open Go.RowKit
open Go.Lib (hid)

set_option maxRecDepth 20000 in
set_option maxHeartbeats 4000000 in
theorem l8ev_spec (es : List EventD) (hs : ∀ e ∈ es, e.x1.size ≤ 1048576) (hen : es.length ≤ 1048576) (a : Value) (w : World) (h : FRow encEvent 2 w a es) :
    Calls Tryd.prog 99 #[a] w fun e w' => e = .returned (.bool (evsB es)) ∧ Below w.heap.size w w' := by
  have HF := hid h
  have CI := hid (fun x W => in_any x 0 7 W)
  have CK := hid (fun i (hi : i < es.length) W => kind_spec es[i].x1 W (hs es[i] (List.getElem_mem hi)))
  obtain ⟨p, c, rfl, _⟩ := h
  clear hs
  by_cases h60 : es.length ≤ 60
  · have d60 : ¬ (es.length : Int) > 60 := by omega
    go_enter Tryd.func99, Tryd.ntmps99
    go_wp2
    go_loopw [3] (fun iv wr => ∃ i : Nat, i ≤ es.length ∧ iv = .int .i64 i ∧ Below w.heap.size w wr ∧ Hid (∀ j (hj : j < es.length), j < i → rightE es[j] = true)) (fun iv _ => es.length - (RowKit.intOf iv).toNat)
    case atStart => exact ⟨0, Nat.zero_le _, rfl, Below.refl _ _, hid (fun j _ h => absurd h (Nat.not_lt_zero _))⟩
    case round =>
      obtain ⟨i, hi, rfl, hbel, HJ⟩ := hrel
      have HB := hid hbel
      by_cases hlt : i < es.length
      · have hne : es ≠ [] := fun h => by rw [h] at hlt; cases hlt
        obtain ⟨p', c', hv, _, hp⟩ := HF.out
        obtain ⟨rfl, rfl⟩ : p = p' ∧ c = c' := by injection hv with h1 h2 h3; exact ⟨h1, by omega⟩
        obtain ⟨g, o, rfl, hg, hc⟩ := hp hne
        clear hv hp
        have b1 : (0 : Int) ≤ (i : Int) := by omega
        have b2 : (i : Int) < (es.length : Int) := by omega
        have k0 : wr.cell? ⟨g, o + i * 2, none⟩ = some (.int .i64 es[i].x0) := (hbel.cell (p := ⟨g, o + i * 2, none⟩) hg).trans (hc i hlt 0 (by decide))
        have k1 : wr.cell? ⟨g, o + i * 2 + 1, none⟩ = some (.string es[i].x1) := (hbel.cell (p := ⟨g, o + i * 2 + 1, none⟩) hg).trans (hc i hlt 1 (by decide))
        have CKI := hid (fun W => CK.out i hlt W)
        have HRE : Hid (rightE es[i] = decide ((0 ≤ es[i].x0 ∧ es[i].x0 ≤ 7) ∧ (nodeOf es[i].x1).1 ≠ 0)) := hid rfl
        have HBAD := hid (fun h => evs_bad (es := es) hlt h)
        clear hc hbel
        have CII := hid (fun W => CI.out es[i].x0 W)
        generalize es[i].x0 = x at *
        generalize es[i].x1 = y at *
        by_cases hx : 0 ≤ x ∧ x ≤ 7
        · rw [decide_eq_true hx] at CII
          generalize (nodeOf y).1 = kk at *
          by_cases hk : kk = 0
          · subst hk
            have HZ := hid (HBAD.out (HRE.out.trans (decide_eq_false (fun h => h.2 rfl))))
            have hkb : (((0 : Nat) : Int) == 0) = true := rfl
            clear hx
            go_wp2_with (go_at_call 133; refine (CII.out _).mono ?_; rintro e wq ⟨rfl, eq⟩; rw [eq]; clear eq wq; refine Hid.out ?_)
            refine hid ?_
            go_wp2_with (go_at_call 88; refine (CKI.out _).mono ?_; rintro e w9 ⟨rfl, hb9⟩; refine Hid.out ?_)
            refine hid ?_
            go_wp2
            go_ret
            exact ⟨by rw [HZ.out] <;> rfl, HB.out.trans (hb9.mono HB.out.size)⟩
          · have HR1 := hid (HRE.out.trans (decide_eq_true ⟨hx, hk⟩))
            have hkb : ((kk : Int) == 0) = false := by rw [beq_eq_false_iff_ne]; omega
            clear hx hk
            go_wp2_with (go_at_call 133; refine (CII.out _).mono ?_; rintro e wq ⟨rfl, eq⟩; rw [eq]; clear eq wq; refine Hid.out ?_)
            refine hid ?_
            go_wp2_with (go_at_call 88; refine (CKI.out _).mono ?_; rintro e w9 ⟨rfl, hb9⟩; refine Hid.out ?_)
            refine hid ?_
            have HB9 := hid (HB.out.trans (hb9.mono HB.out.size))
            clear hb9
            go_wp2
            go_roundw
            case rel => exact ⟨i + 1, by omega, by go_num, HB9.out, hid (fun j hj hji => (Nat.lt_or_ge j i).elim (fun h => HJ.out j hj h) (fun h => by have e : j = i := (by omega); subst e; exact HR1.out))⟩
            case measure => simp [RowKit.intOf]; omega
        · rw [decide_eq_false hx] at CII
          have HZ := hid (HBAD.out (HRE.out.trans (decide_eq_false (fun h => hx h.1))))
          clear hx
          go_wp2_with (go_at_call 133; refine (CII.out _).mono ?_; rintro e wq ⟨rfl, eq⟩; rw [eq]; clear eq wq; refine Hid.out ?_)
          refine hid ?_
          go_wp2
          go_ret
          exact ⟨by rw [HZ.out] <;> rfl, HB.out⟩
      · have hie : i = es.length := by omega
        have HALL := hid (evs_all h60 (fun j hj => HJ.out j hj (by omega)))
        subst hie
        go_wp2
        go_ret
        exact ⟨by rw [HALL.out] <;> rfl, HB.out⟩
  · have d60 : (es.length : Int) > 60 := by omega
    have HZ := hid (show evsB es = false by unfold evsB; rw [decide_eq_false h60]; rfl)
    go_enter Tryd.func99, Tryd.ntmps99
    go_wp2
    go_ret
    exact ⟨by rw [HZ.out] <;> rfl, Below.refl _ _⟩

theorem evs_few {es : List EventD} (h : evsB es = true) : es.length ≤ 60 := by
  unfold evsB at h
  exact of_decide_eq_true (Bool.and_eq_true_iff.1 h).1

theorem made_own (lo : Nat) (w : World) (h : lo ≤ w.heap.size) : (w.alloc (.cells #[] 5)).ownsRow lo 5 1 (.slice (some ⟨w.heap.size, 0, none⟩) 0 0) 0 [] := World.ownsRow_made w #[] 0 h (Nat.zero_le _) (by simp)

set_option maxRecDepth 20000 in
set_option maxHeartbeats 4000000 in
theorem log_spec (es : List EventD) (hs : ∀ e ∈ es, e.x1.size ≤ 1048576) (hen : es.length ≤ 1048576) (a : Value) (w : World) (h : FRow encEvent 2 w a es) :
    Calls Tryd.prog 23 #[a] w (LogPost es w) := by
  have HF := hid h
  have HS := hid hs
  have CE := hid (l8ev_spec es hs hen a w h)
  have HLN := hid (logP_len es hs)
  obtain ⟨p, c, rfl, _⟩ := h
  clear hs
  cases hrb : evsB es with
  | false =>
    rw [hrb] at CE
    have HZ := hid (logO_bad hrb)
    clear hrb
    go_enter Tryd.func23, Tryd.ntmps23
    go_wp2_with (go_at_call 99; refine CE.out.mono ?_; rintro e w1 ⟨rfl, hb1⟩; refine Hid.out ?_)
    refine hid ?_
    have HB1 := hid hb1
    clear hb1
    go_wp2
    go_ret
    exact log_none HZ.out rfl (HB1.out.alloc HB1.out.size _) (made_own _ _ HB1.out.size)
  | true =>
    rw [hrb] at CE
    have HRB := hid hrb
    have h60 := evs_few hrb
    clear hrb
    go_enter Tryd.func23, Tryd.ntmps23
    go_wp2_with (go_at_call 99; refine CE.out.mono ?_; rintro e w0 ⟨rfl, hb0⟩; refine Hid.out ?_)
    refine hid ?_
    have hA := World.ownsRow_lit (base := w.heap.size) (e := 5) (size := 1) w0 #[.int .u8 81, .int .u8 76] 2 hb0.size (by decide) rfl
    have CP := hid (put_spec es.length hen [81, 76] (by simp) w.heap.size _ _ (by have := hb0.size; simp; omega) (.inl hA))
    have HBA : Hid (Below w.heap.size w (w0.alloc (.cells #[.int .u8 81, .int .u8 76] 5))) := hid (hb0.alloc hb0.size _)
    have HAO := hid hA
    clear hA hb0
    go_wp2_with (go_at_call 100; refine CP.out.mono ?_; rintro e w1 ⟨v1, rfl, hl1, ho1⟩; refine Hid.out ?_)
    refine hid ?_
    have HB1 := hid (HBA.out.trans (hl1.below HAO.out (Nat.le_refl _) HBA.out.size))
    have HO1 := hid (show w1.ownsRow w.heap.size 5 1 v1 (logP es 0).length (bys (logP es 0)) by rw [logP_zero]; exact ho1)
    clear hl1 ho1
    go_wp2
    go_loopw [3, 4] (fun dv iv wr => ∃ i : Nat, i ≤ es.length ∧ iv = .int .i64 i ∧ Below w.heap.size w wr ∧ Hid (wr.ownsRow w.heap.size 5 1 dv (logP es i).length (bys (logP es i))) ∧ Hid (i = es.length → 0 < i → (logP es i).length ≤ 60000)) (fun _ iv _ => es.length - (RowKit.intOf iv).toNat)
    case atStart => exact ⟨0, Nat.zero_le _, rfl, HB1.out, HO1, hid (fun _ h => absurd h (Nat.lt_irrefl _))⟩
    case round =>
      obtain ⟨i, hi, rfl, hbel, HO, HJ⟩ := hrel
      have HB := hid hbel
      have hzw : w.heap.size ≤ wr.heap.size := hbel.size
      by_cases hlt : i < es.length
      · have hne : es ≠ [] := fun h => by rw [h] at hlt; cases hlt
        obtain ⟨p', c', hv, _, hp⟩ := HF.out
        obtain ⟨rfl, rfl⟩ : p = p' ∧ c = c' := by injection hv with h1 h2 h3; exact ⟨h1, by omega⟩
        obtain ⟨g, o, rfl, hg, hc⟩ := hp hne
        clear hv hp
        have b1 : (0 : Int) ≤ (i : Int) := by omega
        have b2 : (i : Int) < (es.length : Int) := by omega
        have K0 : Hid (∀ W, Below w.heap.size w W → W.cell? ⟨g, o + i * 2, none⟩ = some (.int .i64 es[i].x0)) := hid (fun W hW => (hW.cell (p := ⟨g, o + i * 2, none⟩) hg).trans (hc i hlt 0 (by decide)))
        have K1 : Hid (∀ W, Below w.heap.size w W → W.cell? ⟨g, o + i * 2 + 1, none⟩ = some (.string es[i].x1)) := hid (fun W hW => (hW.cell (p := ⟨g, o + i * 2 + 1, none⟩) hg).trans (hc i hlt 1 (by decide)))
        have HNX := hid (show logP es (i + 1) = ((logP es i ++ [IntKind.u8.wrap es[i].x0]) ++ sevB 3 es[i].x1.size) ++ strI es[i].x1 by rw [logP_next es i hlt]; unfold evB; simp)
        have hsz := HS.out es[i] (List.getElem_mem hlt)
        have hlen := HLN.out i hi
        clear hc hbel
        generalize es[i].x0 = x at *
        generalize es[i].x1 = y at *
        have HLD := hid (HO.out.lt)
        have e0 := K0.out wr HB.out
        go_wp2_with (at_builtin; refine wp_append_byte rfl _ _ rfl w.heap.size _ _ rfl (HO.out.alloc _) ⟨wr.heap.size, 0, none⟩ 1 (IntKind.u8.wrap x) rfl ((cell_of_row _ _ 0 _ _ _ (heap_alloc_new wr _)).trans rfl) (by omega) (by first | omega | (simp; omega)) ?_)
        intro v4 w4 ho4 hg4 hv4
        refine Hid.out ?_
        refine hid ?_
        have hba : Below wr.heap.size wr (wr.alloc (.cells #[.int .u8 (IntKind.u8.wrap x)] 5)) := (Below.refl _ _).alloc (Nat.le_refl _) _
        have hz4 : wr.heap.size ≤ w4.heap.size := Nat.le_trans (by simp) hg4.size
        have HB4 := hid ((HB.out.trans (hba.mono HB.out.size)).grown hg4 (by simp; omega) (fun k hk => (HLD.out k hk).1))
        have HO4 := hid (show w4.ownsRow w.heap.size 5 1 v4 (logP es i ++ [IntKind.u8.wrap x]).length (bys (logP es i ++ [IntKind.u8.wrap x])) by first | exact ho4 | (rw [List.length_append]; exact ho4))
        clear hba ho4 hg4 hv4 e0
        have CP4 := hid (put_spec y.size hsz (logP es i ++ [IntKind.u8.wrap x]) (by rw [List.length_append]; simp; omega) w.heap.size v4 w4 (by omega) (.inl HO4.out))
        have e1 := K1.out w4 HB4.out
        go_wp2_with (go_at_call 100; refine CP4.out.mono ?_; rintro e w5 ⟨v5, rfl, hl5, ho5⟩; refine Hid.out ?_)
        refine hid ?_
        have hz5 := hl5.touch.size
        have HB5 := hid (HB4.out.trans (hl5.below HO4.out (Nat.le_refl _) (by omega)))
        have HO5 := hid ho5
        clear hl5 ho5 e1
        have e1 := K1.out w5 HB5.out
        obtain ⟨i0, hi0, hy0, hy1, hy2⟩ := info_parts byteInfo
        have hnb := sevB_len 3 y.size
        go_wp2_with (at_builtin; refine Lib.wpList_append_own_string _ rfl _ _ 35 9 rfl w.heap.size 5 i0 Tryd.underlying35 Tryd.underlying9 hi0 hy0 hy1 hy2 v5 _ _ rfl HO5.out y rfl (by simp [maxLen]; omega) (by simp; omega) (by omega) ?_)
        intro v6 w6 ho6 hg6 _
        refine Hid.out ?_
        refine hid ?_
        have HB6 := hid (HB5.out.grown hg6 HB5.out.size (fun k hk => (HO5.out.lt k hk).1))
        have HO6 := hid (show w6.ownsRow w.heap.size 5 1 v6 (logP es (i + 1)).length (bys (logP es (i + 1))) by
          rw [HNX.out, List.length_append, bys_app _ (strI y), strI_len, ← strI_cells]
          simpa using ho6)
        clear ho6 hg6 hi0 hy0 hy1 hy2 e1
        obtain ⟨q, d, rfl⟩ := touch_slice HO6.out
        by_cases hl6 : (logP es (i + 1)).length ≤ 60000
        · have hli : ¬ ((logP es (i + 1)).length : Int) > 60000 := by omega
          go_wp2
          go_roundw
          case rel => exact ⟨i + 1, by omega, by go_num, HB6.out, HO6, hid (fun _ _ => hl6)⟩
          case measure => simp [RowKit.intOf]; omega
        · have hli : ((logP es (i + 1)).length : Int) > 60000 := by omega
          have HZ := hid (logO_long (es := es) (i := i + 1) (by omega) hl6)
          go_wp2
          go_ret
          exact log_none HZ.out rfl (HB6.out.alloc HB6.out.size _) (made_own _ _ HB6.out.size)
      · have hie : i = es.length := by omega
        have HZ := hid (logO_good HRB.out (show (logP es es.length).length ≤ 60000 from by
          by_cases h0 : 0 < i
          · have := HJ.out hie h0
            rw [← hie]
            exact this
          · have h1 := HLN.out es.length (Nat.le_refl _)
            omega))
        subst hie
        have HO9 := hid HO.out
        clear hbel
        go_wp2
        go_ret
        exact log_some HZ.out rfl HB.out HO9.out
end Go.Proofs.YtedbhlihdfaaaaaDoor
