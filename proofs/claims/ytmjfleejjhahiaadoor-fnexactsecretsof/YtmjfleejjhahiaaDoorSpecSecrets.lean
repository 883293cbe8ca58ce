/- The specification's secrets of a term. -/
import Derived.Test.YtmjfleejjhahiaaDoorSecPlain
import Derived.Test.YtmjfleejjhahiaaDoorSpecRising
namespace Go.Proofs.YtmjfleejjhahiaaDoor
open Go.RowKit
open Go.Lib (hid)

def secB (x : List UInt8) : Bool := secretB x

theorem filter_take (ps : List (List UInt8)) (i : Nat) (h : i < ps.length) : (ps.take (i + 1)).filter secB = (ps.take i).filter secB ++ (if secB ps[i] = true then [ps[i]] else []) := by
  rw [List.take_succ_eq_append_getElem h, List.filter_append]
  congr 1
  by_cases h : secB ps[i] = true <;> simp [h]

set_option maxRecDepth 20000 in
set_option maxHeartbeats 2000000 in
theorem secrets_spec (s : ByteArray) (w : World) (hs : s.size ≤ 1048576) :
    Calls Tryd.prog 43 #[.string s] w fun e w' => ∃ sv qs, e = .returned sv ∧ Below w.heap.size w w' ∧ w'.ownsRow w.heap.size 9 1 sv qs.length (strs qs) ∧ Rising qs ∧ (∀ x, x ∈ qs ↔ SecIn s x) ∧ qs.length ≤ 4000 := by
  have KC := hid (fun w => kind_spec s w hs)
  by_cases h0 : (nodeOf s).1 = 0
  · have HN := hid h0
    rw [h0] at KC
    clear h0
    go_enter Tryd.func43, Tryd.ntmps43
    go_wp2_with (go_at_call 58; refine (KC.out _).mono ?_; rintro e w1 ⟨rfl, hb1⟩; refine Hid.out ?_)
    refine hid ?_
    have HB1 := hid hb1
    clear hb1
    go_wp2
    go_ret
    exact ⟨_, [], rfl, ((Below.refl _ _).alloc (Nat.le_refl _) _).trans (HB1.out.mono (by simp)), own_below (none_own w) HB1.out, List.Pairwise.nil, fun x => ⟨fun h => (by cases h), fun h => absurd HN.out h.1⟩, by simp⟩
  · obtain ⟨h4, hno⟩ := nodeOf_pos h0
    have hk40 : (kindS 40 s.data.toList).1 ≠ 0 := by rw [← hno]; exact h0
    have AC := hid (fun w => all_all 40 (by omega) s w h4 hk40)
    have hlen := allS_len 40 s.data.toList hk40
    have hsl : s.data.toList.length = s.size := by simp
    have hkk : (((nodeOf s).1 : Nat) : Int) ≠ 0 := by omega
    have HK0 := hid h0
    have hbe : ((((nodeOf s).1 : Nat) : Int) == 0) = false := by rw [beq_eq_false_iff_ne]; exact hkk
    have hfin : ∀ x, SecIn s x ↔ x ∈ (allS 40 s.data.toList).filter secB := fun x => by
      rw [List.mem_filter]
      exact ⟨fun h => ⟨h.2.1, h.2.2⟩, fun h => ⟨h0, h.1, h.2⟩⟩
    have HF := hid hfin
    clear h0 hno hk40 hkk hfin
    generalize (nodeOf s).1 = kk at *
    generalize allS 40 s.data.toList = al at *
    go_enter Tryd.func43, Tryd.ntmps43
    go_wp2_with (go_at_call 58; refine (KC.out _).mono ?_; rintro e w1 ⟨rfl, hb1⟩; refine Hid.out ?_)
    refine hid ?_
    have HB1 := hid (((Below.refl w.heap.size w).alloc (Nat.le_refl _) (.cells #[] 9)).trans (hb1.mono (by simp)))
    have HO1 := hid (own_below (none_own w) hb1)
    have hz1 : w.heap.size + 1 ≤ w1.heap.size := by have := hb1.size; simpa using this
    clear hb1
    go_wp2_with (go_at_call 86; refine (AC.out _).mono ?_; rintro e w2 ⟨sv, rfl, hb2, ho2⟩; refine Hid.out ?_)
    refine hid ?_
    obtain ⟨p, c, rfl⟩ := row_shape ho2
    have HT2 := hid (texts_of ho2)
    have HP2 := hid (show ∀ g, p = some ⟨g, 0, none⟩ → w1.heap.size ≤ g ∧ g < w2.heap.size from fun g hg => ho2.lt g (by rw [hg]; rfl))
    have HB2 := hid (HB1.out.trans (hb2.mono (by omega)))
    have HO2 := hid (own_below HO1.out hb2)
    have hz2 := hb2.size
    clear hb2 ho2
    go_wp2
    go_loopw [3, 5] (fun ov iv wr => ∃ i : Nat, i ≤ al.length ∧ iv = .int .i64 i ∧ Below w.heap.size w wr ∧ Hid (TextsAt wr (.slice p al.length c) al ∧ w2.heap.size ≤ wr.heap.size ∧ ∀ k, ov.ownBlock = some k → k = w.heap.size ∨ w2.heap.size ≤ k) ∧ wr.ownsRow w.heap.size 9 1 ov ((al.take i).filter secB).length (strs ((al.take i).filter secB))) (fun _ iv _ => al.length - (RowKit.intOf iv).toNat)
    case atStart => exact ⟨0, Nat.zero_le _, rfl, HB2.out, hid ⟨HT2.out, Nat.le_refl _, fun k hk => Or.inl (by simpa [Value.ownBlock] using hk.symm)⟩, HO2.out⟩
    case round =>
      obtain ⟨i, hi, rfl, hbel, HTX, hown⟩ := hrel
      have HB := hid hbel
      have HO := hid hown
      have hszr := hbel.size
      have hflen : ((al.take i).filter secB).length ≤ al.length := Nat.le_trans (List.length_filter_le _ _) (by rw [List.length_take]; omega)
      by_cases hlt : i < al.length
      · have hne : al ≠ [] := fun h => by rw [h] at hlt; cases hlt
        obtain ⟨q, c2, hqs, hq⟩ := HTX.out.1
        simp only [Value.slice.injEq, true_and] at hqs
        obtain ⟨rfl, rfl⟩ := hqs
        obtain ⟨g, rfl, hk⟩ := hq hne
        have hc1 := hk.2 i hlt
        have hgl := hk.1
        obtain ⟨x, hx⟩ : ∃ x : ByteArray, x = ⟨al[i].toArray⟩ := ⟨_, rfl⟩
        rw [← hx] at hc1
        have hxl : x.data.toList = al[i] := by rw [hx]
        have HX := hid hxl
        have HFT := hid (filter_take al i hlt)
        have HKR := hid hk
        clear hk hx hxl hbel hown hq
        cases hsec : secretB x.data.toList with
        | false =>
          have SC := hid (fun w => ssecret_calls x w)
          rw [hsec] at SC
          have HSE := hid hsec
          clear hsec
          go_wp2_with (go_at_call 87; refine (SC.out _).mono ?_; rintro e w5 ⟨rfl, rfl⟩)
          go_roundw
          case rel =>
            refine ⟨i + 1, by omega, by go_num, HB.out, hid HTX.out, ?_⟩
            rw [HFT.out, ← HX.out, if_neg (by show ¬ secretB _ = true; rw [HSE.out]; simp), List.append_nil]
            exact HO.out
          case measure => simp [RowKit.intOf]; omega
        | true =>
          have SC := hid (fun w => ssecret_calls x w)
          rw [hsec] at SC
          have HSE := hid hsec
          clear hsec
          have hown := HO.out
          go_wp2_with (first | (go_at_call 87; refine (SC.out _).mono ?_; rintro e w5 ⟨rfl, rfl⟩) | (at_builtin; refine wp_append_str rfl _ _ rfl w.heap.size _ _ _ rfl (hown.alloc _) ⟨w5.heap.size, 0, none⟩ 1 x rfl ?c1 ?c2 ?c3 ?_))
          case c1 => simp [go_sem]
          case c2 => omega
          case c3 => simp; omega
          intro out' w6 hown6 hgrow hwhere
          have hbel6 : Below w.heap.size w w6 := ((HB.out.alloc hszr _).grown hgrow (by simp; omega) (fun k hk => (hown.lt k hk).1))
          have hgp := HP2.out g rfl
          have hkr : KRow w6 g al := by
            have hk5 := HKR.out
            refine ⟨Nat.lt_of_lt_of_le (by simpa using Nat.lt_succ_of_lt hk5.1) hgrow.size, fun j hj => hgrow.cell ?_ ?_⟩
            · rw [World.cell?_alloc_lt _ _ ⟨g, j, none⟩ hgl]
              exact hk5.2 j hj
            · intro e
              rcases HTX.out.2.2 g e.symm with h | h <;> omega
          have hrel2 : TextsAt w6 (.slice (some ⟨g, 0, none⟩) al.length c) al ∧ w2.heap.size ≤ w6.heap.size ∧ ∀ k, out'.ownBlock = some k → k = w.heap.size ∨ w2.heap.size ≤ k := by
            have hz6 : w5.heap.size + 1 ≤ w6.heap.size := by simpa using hgrow.size
            refine ⟨⟨_, c, rfl, fun _ => ⟨g, rfl, hkr⟩⟩, by have := HTX.out.2.1; omega, fun k hk => ?_⟩
            rcases hwhere with e | e
            · rw [e] at hk; exact HTX.out.2.2 k hk
            · rw [e] at hk
              have hk := Option.some.inj hk
              have h1 := HTX.out.2.1
              have h2 : (w5.alloc (.cells #[.string x] 9)).heap.size = w5.heap.size + 1 := by simp
              omega
          have hown7 : w6.ownsRow w.heap.size 9 1 out' ((al.take (i + 1)).filter secB).length (strs ((al.take (i + 1)).filter secB)) := by
            rw [HFT.out, ← HX.out, if_pos (show secB x.data.toList = true from HSE.out), List.length_append]
            have e : strs ((al.take i).filter secB ++ [x.data.toList]) = strs ((al.take i).filter secB) ++ [.string x] := by simp [strs]
            rw [e]
            exact hown6
          have R1 := hid hbel6
          have R2 := hid hrel2
          have R3 := hid hown7
          clear hbel6 hrel2 hown7 hkr hown6 hgrow hwhere hown hc1 hgp
          go_wp2
          go_roundw
          case rel => exact ⟨i + 1, by omega, by go_num, R1.out, hid R2.out, R3.out⟩
          case measure => simp [RowKit.intOf]; omega
      · have hie : i = al.length := by omega
        subst hie
        have hto := texts_of hown
        rw [List.take_of_length_le (Nat.le_refl _)] at hto hflen
        have HTO := hid hto
        clear hbel hown hto
        go_wp2_with (go_at_call 88; refine (rising_calls (al.filter secB) (by omega) _ _ HTO.out).mono ?_; rintro e w5 ⟨s5, qs, rfl, hb5, ho5, hr5, hm5, hn5⟩; refine Hid.out ?_)
        refine hid ?_
        have HB5 := hid (HB.out.trans (hb5.mono hszr))
        have HO5 := hid (own_base ho5 hszr)
        have HR5 := hid hr5
        have HM5 := hid hm5
        clear hb5 ho5 hr5 hm5
        go_wp2
        go_ret
        exact ⟨s5, qs, rfl, HB5.out, HO5.out, HR5.out, fun x => by rw [HM5.out, HF.out], by omega⟩
end Go.Proofs.YtmjfleejjhahiaaDoor
