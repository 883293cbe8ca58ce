/- The program's Make. -/
import Derived.Test.YtjaaplcgphlccaaGreatDoorMakeSpec
import Derived.Test.YtjaaplcgphlccaaGreatDoorShelf
namespace Go.Proofs.YtjaaplcgphlccaaGreatDoor
open Go.RowKit
open Go.Lib (hid)

theorem tab_on {w w' : World} (h : Tab w) (hG : 0 < w.heap.size) (hb : Below w.heap.size w w') : Tab w' := fun k h3 h7 => by
  have hr := h k h3 h7
  exact ⟨(hb.cell (p := ⟨0, k * 4, none⟩) hG).trans hr.word, (hb.cell (p := ⟨0, k * 4 + 1, none⟩) hG).trans hr.least, (hb.cell (p := ⟨0, k * 4 + 2, none⟩) hG).trans hr.most, (hb.cell (p := ⟨0, k * 4 + 3, none⟩) hG).trans hr.first⟩

theorem impl_range (kind : Int) (ps : List (List UInt8)) (h : ¬ (3 ≤ kind ∧ kind ≤ 7)) (a : Value) (w : World) :
    Calls Tryz.prog 86 #[.int .i64 kind, a] w (MadeOut w (madeB kind ps) (tmWith kind.toNat ps)) := by
  rw [madeB_range h]
  by_cases h3 : kind < 3
  · clear h
    go_enter Tryz.func86, Tryz.ntmps86
    go_wp2
    go_ret2
    exact ⟨rfl, Below.refl _ _⟩
  · have h7 : kind > 7 := by omega
    clear h
    go_enter Tryz.func86, Tryz.ntmps86
    go_wp2
    go_ret2
    exact ⟨rfl, Below.refl _ _⟩

theorem most_pos (k : Nat) : 1 ≤ mostOf k := by unfold mostOf; split <;> omega

theorem impl_many (k : Nat) (h3 : 3 ≤ k) (h7 : k ≤ 7) (ps : List (List UInt8)) (hm : mostOf k < ps.length) (a : Value) (w : World) (ha : TextsAt w a ps) (hT : Tab w) :
    Calls Tryz.prog 86 #[.int .i64 k, a] w (MadeOut w (madeB k ps) (tmWith k ps)) := by
  have hb : madeB k ps = false := by
    unfold madeB
    rw [decide_eq_false]
    rintro ⟨_, _, h⟩
    rw [Int.toNat_natCast] at h
    have := (made_parts h3 h7 h).2.1
    omega
  rw [hb]
  obtain ⟨p, c, rfl, _⟩ := ha
  have hmost := (hT k h3 h7).most
  clear hb hT
  have i3 : ¬ (k : Int) < 3 := by omega
  have i7 : ¬ (k : Int) > 7 := by omega
  have im : (ps.length : Int) > (mostOf k : Int) := by omega
  generalize mostOf k = mk at *
  go_enter Tryz.func86, Tryz.ntmps86
  go_wp2
  go_ret2
  exact ⟨rfl, Below.refl _ _⟩

theorem join_glue (ps : List (List UInt8)) (hne : ps ≠ []) : Lib.join ps [32] = glue ps := by
  cases ps with
  | nil => exact absurd rfl hne
  | cons x r =>
    rw [Lib.join_cons, glue_spread]
    congr 1
    unfold Lib.joinTail
    induction r with
    | nil => rfl
    | cons y q ih =>
      simp only [List.map_cons, List.flatten_cons, spread]
      rw [ih (by simp)]
      rfl

set_option maxRecDepth 20000 in
set_option maxHeartbeats 2000000 in
theorem impl_few (k : Nat) (h3 : 3 ≤ k) (h7 : k ≤ 7) (ps : List (List UInt8)) (hm : ps.length ≤ mostOf k) (p : Option Addr) (c : Nat) (hcap : ps.length ≤ c) (w : World) (ha : TextsAt w (.slice p ps.length c) ps) (hT : Tab w) (hG : 0 < w.heap.size) :
    Calls Tryz.prog 86 #[.int .i64 k, .slice p ps.length c] w (MadeOut w (madeB k ps) (tmWith k ps)) := by
  have hp : ps ≠ [] → ∃ g, p = some ⟨g, 0, none⟩ ∧ KRow w g ps := by
    obtain ⟨q, c2, hq, hp⟩ := ha
    simp only [Value.slice.injEq, true_and] at hq
    obtain ⟨rfl, rfl⟩ := hq
    exact hp
  have hmost := (hT k h3 h7).most
  have hword := (hT k h3 h7).word
  have h8 := most_few k
  have HT := hid hT
  have HP := hid hp
  have i3 : ¬ (k : Int) < 3 := by omega
  have i7 : ¬ (k : Int) > 7 := by omega
  have im : ¬ (ps.length : Int) > (mostOf k : Int) := by omega
  clear hT hp
  generalize mostOf k = mk at *
  go_enter Tryz.func86, Tryz.ntmps86
  have HW := hid hword
  have hmade : madeB (k : Int) ps = decide (nodeOf (bytesOf (tmWith k ps)) = (k, ps)) := by
    unfold madeB
    rw [Int.toNat_natCast]
    by_cases h : nodeOf (bytesOf (tmWith k ps)) = (k, ps)
    · rw [decide_eq_true h, decide_eq_true ⟨by omega, by omega, h⟩]
    · rw [decide_eq_false h, decide_eq_false (fun e => h e.2.2)]
  have HM := hid hmade
  clear hword hmade
  go_wp2
  go_loopw [26] (fun iv wr => ∃ i : Nat, i ≤ ps.length ∧ iv = .int .i64 i ∧ Below w.heap.size w wr ∧ Hid (∀ j (hj : j < ps.length), j < i → (nodeOf (bytesOf ps[j])).1 ≠ 0)) (fun iv _ => ps.length - (RowKit.intOf iv).toNat)
  case atStart => exact ⟨0, Nat.zero_le _, rfl, Below.refl _ _, hid (fun j hj h => by omega)⟩
  case round =>
    obtain ⟨i, hi, rfl, hbel, HS⟩ := hrel
    have hGr : 0 < wr.heap.size := Nat.lt_of_lt_of_le hG hbel.size
    have HTr := hid (tab_on HT.out hG hbel)
    have HB := hid hbel
    have hzb := hbel.size
    by_cases hlt : i < ps.length
    · have hne : ps ≠ [] := fun h => by rw [h] at hlt; cases hlt
      obtain ⟨g, rfl, hk⟩ := HP.out hne
      have hc1 := (hk.on hbel).2 i hlt
      have KC : Hid (∀ w, Tab w → 0 < w.heap.size → Calls Tryz.prog 63 #[.string (bytesOf ps[i])] w fun e w' => e = .returned (.int .i64 ((nodeOf (bytesOf ps[i])).1 : Nat)) ∧ Below w.heap.size w w') :=
        hid (fun w => kind_impl (bytesOf ps[i]) w)
      obtain ⟨x, hx⟩ : ∃ x : ByteArray, x = bytesOf ps[i] := ⟨_, rfl⟩
      rw [show (⟨ps[i].toArray⟩ : ByteArray) = x from hx.symm] at hc1
      rw [← hx] at KC
      have HX := hid hx
      clear hx hk hbel
      obtain ⟨kk, hkk⟩ : ∃ kk, (nodeOf x).1 = kk := ⟨_, rfl⟩
      have HK := hid hkk
      rw [hkk] at KC
      clear hkk
      by_cases h0 : kk = 0
      · have hb0 : ((kk : Int) == 0) = true := by rw [h0]; rfl
        have hno : madeB (k : Int) ps = false := by
          rw [HM.out, decide_eq_false]
          intro h
          have h1 := ((made_parts h3 h7 h).2.2 ps[i] (List.getElem_mem hlt)).1
          rw [← HX.out, HK.out] at h1
          exact h1 h0
        have HNO := hid hno
        clear hno h0
        go_wp2_with (go_at_call 63; refine (KC.out _ HTr.out hGr).mono ?_; rintro e w5 ⟨rfl, hb5⟩; refine Hid.out ?_)
        refine hid ?_
        have HB5 := hid (HB.out.trans (hb5.mono hzb))
        clear hb5
        go_wp2
        go_ret2
        exact ⟨by rw [HNO.out]; rfl, HB5.out⟩
      · have hb0 : ((kk : Int) == 0) = false := by rw [beq_eq_false_iff_ne]; omega
        have H0 := hid h0
        clear h0
        go_wp2_with (go_at_call 63; refine (KC.out _ HTr.out hGr).mono ?_; rintro e w5 ⟨rfl, hb5⟩; refine Hid.out ?_)
        refine hid ?_
        have HB5 := hid (HB.out.trans (hb5.mono hzb))
        clear hb5
        go_wp2
        go_roundw
        case rel =>
          refine ⟨i + 1, by omega, by go_num, HB5.out, hid (fun j hj h => ?_)⟩
          by_cases hji : j = i
          · subst hji
            rw [← HX.out, HK.out]
            exact H0.out
          · exact HS.out j hj (by omega)
        case measure => simp [RowKit.intOf]; omega
    · have hie : i = ps.length := by omega
      subst hie
      have hall : ∀ x ∈ ps, (nodeOf (bytesOf x)).1 ≠ 0 := fun x hx => by
        obtain ⟨j, hj, rfl⟩ := List.getElem_of_mem hx
        exact HS.out j hj hj
      have HALL := hid hall
      have hwr := (HTr.out k h3 h7).word
      obtain ⟨wd, hwd⟩ : ∃ wd : ByteArray, wd = ⟨(wordOf k).toArray⟩ := ⟨_, rfl⟩
      rw [← hwd] at hwr
      have hwl : wd.size ≤ 4 := by rw [hwd]; exact Nat.le_trans (Nat.le_of_eq (bytesOf_size (wordOf k))) (word_len k)
      have HWD := hid hwd
      clear hwd hall hbel
      by_cases hne : ps = []
      · have hz : ps.length = 0 := by rw [hne]; rfl
        have hno : madeB (k : Int) ps = false := by
          rw [HM.out, decide_eq_false]
          intro h
          exact (made_parts h3 h7 h).1 hne
        have htt : (⟨#[40]⟩ : ByteArray) ++ wd ++ ⟨#[32]⟩ ++ ⟨#[]⟩ ++ ⟨#[41]⟩ = bytesOf (tmWith k [[]]) := by
          rw [HWD.out]
          show bytesOf [40] ++ bytesOf (wordOf k) ++ bytesOf [32] ++ bytesOf [] ++ bytesOf [41] = _
          simp only [bytesOf, cat_bytes]
          unfold tmWith glue glue
          simp
        have KC : Hid (∀ W, Tab W → 0 < W.heap.size → Calls Tryz.prog 63 #[.string (⟨#[40]⟩ ++ wd ++ ⟨#[32]⟩ ++ ⟨#[]⟩ ++ ⟨#[41]⟩)] W fun e w' => e = .returned (.int .i64 0) ∧ Below W.heap.size W w') :=
          hid (fun W h1 h2 => by
            rw [htt]
            have := kind_impl (bytesOf (tmWith k [[]])) W h1 h2
            rw [kind_blank k h3 h7] at this
            exact this)
        have HNO := hid hno
        have hb0 : ((0 : Int) != (k : Int)) = true := by rw [bne_iff_ne]; omega
        clear hno htt hne
        have JC : Hid (∀ W, Calls Tryz.prog 94 #[.slice p ps.length c, .string ⟨#[32]⟩] W fun e w' => e = .returned (.string ⟨#[]⟩) ∧ w' = W) :=
          hid (fun W => by rw [hz]; exact Tryz.strings_Join_none _ _ _ _)
        clear hz
        go_wp2
        go_region_with (go_at_call 94; refine (JC.out _).mono ?_; rintro e w5 ⟨rfl, rfl⟩)
        all_goals
          have HT6 := hid (tab_on HTr.out hGr (Below.drew (Below.refl _ _)))
          go_wp2_with (go_at_call 63; refine (KC.out _ (by exact HT6.out) (by exact hGr)).mono ?_; rintro e w6 ⟨rfl, hb6⟩; refine Hid.out ?_)
          refine hid ?_
          have HB6 := hid ((Below.drew HB.out).trans (hb6.mono hzb))
          clear hb6
          go_wp2
          go_ret2
          exact ⟨by rw [HNO.out]; rfl, HB6.out⟩
      · obtain ⟨g, rfl, hk⟩ := HP.out hne
        have hgw := hk.1
        have hlen : (Lib.join ps [32]).length ≤ 40000 := by
          have h1 := spread_small ps ps.length (Nat.le_refl _) (fun j hj _ => (nodeOf_bytes _ (HALL.out ps[j] (List.getElem_mem hj))).1)
          have h2 := glue_spread [] ps
          rw [List.take_of_length_le (Nat.le_refl _)] at h1
          rw [join_glue ps hne]
          have h3 : (glue ps).length ≤ (glue ([] :: ps)).length := by
            rw [glue_cons hne]
            simp
          rw [h2] at h3
          simp only [List.length_append, List.length_nil] at h3
          omega
        have hmm : (ps.map bytesOf).map (·.data.toList) = ps := by
          rw [List.map_map]
          exact List.map_id' ps
        have JC : Hid (∀ W, Below w.heap.size w W → Calls Tryz.prog 94 #[.slice (some ⟨g, 0, none⟩) ps.length c, .string ⟨#[32]⟩] W fun e w' => e = .returned (.string (bytesOf (glue ps))) ∧ Below W.heap.size W w') :=
          hid (fun W hW => by
            have h1 := Tryz.strings_Join g 0 c (ps.map bytesOf) ⟨#[32]⟩ W (fun j x hx => by
              rw [List.getElem?_map] at hx
              obtain ⟨y, hy, rfl⟩ := Option.map_eq_some_iff.1 hx
              obtain ⟨hj, rfl⟩ := List.getElem?_eq_some_iff.1 hy
              rw [Nat.zero_add]
              exact (hk.on hW).2 j hj) (Nat.lt_of_lt_of_le hgw hW.size) (by rw [List.length_map]; omega) (by rw [List.length_map]; exact hcap) (by
              rw [hmm]
              have := hlen
              exact Nat.le_trans this (by omega))
            rw [List.length_map, hmm] at h1
            rw [show Lib.join ps (⟨#[32]⟩ : ByteArray).data.toList = glue ps from join_glue ps hne] at h1
            exact h1)
        rw [join_glue ps hne] at hlen
        obtain ⟨jn, hjn⟩ : ∃ jn, jn = bytesOf (glue ps) := ⟨_, rfl⟩
        have hjl : jn.size ≤ 40000 := by rw [hjn, bytesOf_size]; exact hlen
        rw [← hjn] at JC
        have htt : (⟨#[40]⟩ : ByteArray) ++ wd ++ ⟨#[32]⟩ ++ jn ++ ⟨#[41]⟩ = bytesOf (tmWith k ps) := by
          rw [HWD.out, hjn]
          show bytesOf [40] ++ bytesOf (wordOf k) ++ bytesOf [32] ++ bytesOf (glue ps) ++ bytesOf [41] = _
          simp only [bytesOf, cat_bytes]
          unfold tmWith
          rw [glue_cons hne]
          simp
        have KC : Hid (∀ W, Tab W → 0 < W.heap.size → Calls Tryz.prog 63 #[.string (⟨#[40]⟩ ++ wd ++ ⟨#[32]⟩ ++ jn ++ ⟨#[41]⟩)] W fun e w' => e = .returned (.int .i64 ((nodeOf (bytesOf (tmWith k ps))).1 : Nat)) ∧ Below W.heap.size W w') :=
          hid (fun W h1 h2 => by rw [htt]; exact kind_impl (bytesOf (tmWith k ps)) W h1 h2)
        have HMI := hid (made_iff h3 h7 ps HALL.out)
        have HTT := hid htt
        clear hk hlen hmm hjn htt
        obtain ⟨kk, hkk⟩ : ∃ kk, (nodeOf (bytesOf (tmWith k ps))).1 = kk := ⟨_, rfl⟩
        rw [hkk] at KC
        have hres : madeB (k : Int) ps = decide (kk = k) := by
          rw [HM.out]
          by_cases h : nodeOf (bytesOf (tmWith k ps)) = (k, ps)
          · rw [decide_eq_true h, decide_eq_true (by rw [← hkk]; exact HMI.out.2 h)]
          · rw [decide_eq_false h, decide_eq_false (fun e => h (HMI.out.1 (by rw [hkk]; exact e)))]
        have HR := hid hres
        clear hkk hres hne
        go_wp2
        go_region_with (go_at_call 94; refine (JC.out _ (by exact Below.drew HB.out)).mono ?_; rintro e w5 ⟨rfl, hb5⟩; have hc5 := hb5.cell (p := ⟨0, k * 4, none⟩) hGr)
        all_goals
          have HB5 := hid ((Below.drew HB.out).trans (hb5.mono hzb))
          have hz5 := hb5.size
          clear hb5 hc5
          have HT6 := hid (tab_on HT.out hG HB5.out)
          have hG6 := Nat.lt_of_lt_of_le hG HB5.out.size
          by_cases hkk : kk = k
          · have hbe : ((kk : Int) != (k : Int)) = false := by rw [hkk]; simp
            have HR2 := hid (HR.out.trans (decide_eq_true hkk))
            clear hkk
            go_wp2_with (go_at_call 63; refine (KC.out _ HT6.out hG6).mono ?_; rintro e w6 ⟨rfl, hb6⟩; refine Hid.out ?_)
            refine hid ?_
            have HB6 := hid (HB5.out.trans (hb6.mono HB5.out.size))
            clear hb6
            go_wp2
            go_ret2
            exact ⟨by rw [HR2.out, ← HTT.out]; rfl, HB6.out⟩
          · have hbe : ((kk : Int) != (k : Int)) = true := by rw [bne_iff_ne]; omega
            have HR2 := hid (HR.out.trans (decide_eq_false hkk))
            clear hkk
            go_wp2_with (go_at_call 63; refine (KC.out _ HT6.out hG6).mono ?_; rintro e w6 ⟨rfl, hb6⟩; refine Hid.out ?_)
            refine hid ?_
            have HB6 := hid (HB5.out.trans (hb6.mono HB5.out.size))
            clear hb6
            go_wp2
            go_ret2
            exact ⟨by rw [HR2.out]; rfl, HB6.out⟩

/-- The program's Make, whatever it is given. -/
theorem make_impl (kind : Int) (ps : List (List UInt8)) (p : Option Addr) (c : Nat) (hcap : ps.length ≤ c) (w : World) (ha : TextsAt w (.slice p ps.length c) ps) (hT : Tab w) (hG : 0 < w.heap.size) :
    Calls Tryz.prog 86 #[.int .i64 kind, .slice p ps.length c] w (MadeOut w (madeB kind ps) (tmWith kind.toNat ps)) := by
  by_cases h : 3 ≤ kind ∧ kind ≤ 7
  · obtain ⟨k, rfl⟩ := Int.eq_ofNat_of_zero_le (show 0 ≤ kind by omega)
    rw [Int.toNat_natCast]
    by_cases hm : ps.length ≤ mostOf k
    · exact impl_few k (by omega) (by omega) ps hm p c hcap w ha hT hG
    · exact impl_many k (by omega) (by omega) ps (by omega) _ w ha hT
  · exact impl_range kind ps h _ w

end Go.Proofs.YtjaaplcgphlccaaGreatDoor
