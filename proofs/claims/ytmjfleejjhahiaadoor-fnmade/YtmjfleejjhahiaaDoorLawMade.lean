/- The law FnMade, walked: it answers true. -/
import Derived.Test.YtmjfleejjhahiaaDoorDrawMake
import Derived.Test.YtmjfleejjhahiaaDoorImplStands
import Derived.Test.YtmjfleejjhahiaaDoorMakeImpl
namespace Go.Proofs.YtmjfleejjhahiaaDoor
open Go.RowKit
open Go.Lib (hid)

theorem texts_same (ps : List (List UInt8)) (hn : ps.length ≤ 1000000000) (a b : Value) (w : World) (ha : TextsAt w a ps) (hb : TextsAt w b ps) :
    Calls Tryd.prog 21 #[a, b] w fun e w' => e = .returned (.bool true) ∧ Below w.heap.size w w' := by
  obtain ⟨p, c, rfl, hp⟩ := ha
  obtain ⟨q, e, rfl, hq⟩ := hb
  have HP := hid hp
  have HQ := hid hq
  clear hp hq
  go_enter Tryd.func21, Tryd.ntmps21
  go_wp2
  go_loopw [5] (fun iv wr => ∃ i : Nat, i ≤ ps.length ∧ iv = .int .i64 i ∧ Below w.heap.size w wr) (fun iv _ => ps.length - (RowKit.intOf iv).toNat)
  case atStart => exact ⟨0, Nat.zero_le _, rfl, Below.refl _ _⟩
  case round =>
    obtain ⟨i, hi, rfl, hbel⟩ := hrel
    by_cases hlt : i < ps.length
    · have hne : ps ≠ [] := fun h => by rw [h] at hlt; cases hlt
      obtain ⟨g, rfl, hk⟩ := HP.out hne
      obtain ⟨g2, rfl, hk2⟩ := HQ.out hne
      have hc1 := (hk.on hbel).2 i hlt
      have hc2 := (hk2.on hbel).2 i hlt
      clear hk hk2
      obtain ⟨x, hx⟩ : ∃ x : ByteArray, x = ⟨ps[i].toArray⟩ := ⟨_, rfl⟩
      rw [← hx] at hc1 hc2
      go_wp2
      go_quiet (fail)
      go_wp2
      go_roundw
      case rel => exact ⟨i + 1, by omega, by go_num, drewN_below hbel _⟩
      case measure => simp [RowKit.intOf]; omega
    · have hie : i = ps.length := by omega
      subst hie
      go_wp2
      go_ret
      exact ⟨rfl, hbel⟩


theorem allS_self (d : Nat) (l : List UInt8) : l ∈ allS d l := by cases d <;> simp [allS]

/-- What is made has its parts standing in it, and stands in none of them. -/
theorem made_stands {kind : Int} {ps : List (List UInt8)} (h : madeB kind ps = true) : 3 ≤ kind ∧ kind ≤ 7 ∧ nodeOf (bytesOf (tmWith kind.toNat ps)) = (kind.toNat, ps) ∧ ps.length ≤ 8 ∧
    ∀ x ∈ ps, standsB (bytesOf (tmWith kind.toNat ps)) (bytesOf x) = true ∧ standsB (bytesOf x) (bytesOf (tmWith kind.toNat ps)) = false := by
  unfold madeB at h
  rw [decide_eq_true_eq] at h
  obtain ⟨h3, h7, hn⟩ := h
  have h0 : (nodeOf (bytesOf (tmWith kind.toNat ps))).1 ≠ 0 := by rw [hn]; show kind.toNat ≠ 0; omega
  obtain ⟨_, hk⟩ := nodeOf_bytes _ h0
  have hmp := made_parts (k := kind.toNat) (by omega) (by omega) hn
  have hps : (kindS 40 (tmWith kind.toNat ps)).2 = ps := by rw [← hk, hn]
  refine ⟨h3, h7, hn, Nat.le_trans hmp.2.1 (most_few _), fun x hx => ⟨?_, ?_⟩⟩
  · unfold standsB
    refine decide_eq_true ⟨h0, (hmp.2.2 x hx).1, ?_⟩
    show x ∈ allS 40 (tmWith kind.toNat ps)
    simp only [allS, List.mem_cons, List.mem_flatten, List.mem_map]
    exact Or.inr ⟨_, ⟨x, by rw [hps]; exact hx, rfl⟩, allS_self 39 x⟩
  · unfold standsB
    refine decide_eq_false ?_
    rintro ⟨hx0, _, hm⟩
    obtain ⟨_, hkx⟩ := nodeOf_bytes _ hx0
    rw [hkx] at hx0
    have hle := (allS_kind 40 x (tmWith kind.toNat ps) hx0 hm).2
    have hlt := (part_of (d := 39) (l := tmWith kind.toNat ps) (p := x) (by rw [hps]; exact hx)).2
    omega

theorem big_calls (q : Option Addr) (n c : Nat) (w : World) : Calls Tryd.prog 15 #[.slice q n c] w fun e w' => e = .returned (.bool (decide ((n : Int) > 1048576))) ∧ w' = w := by
  go_enter Tryd.func15, Tryd.ntmps15
  go_wp2
  go_ret
  exact ⟨rfl, rfl⟩

set_option maxRecDepth 20000 in
set_option maxHeartbeats 2000000 in
theorem law_calls (q : Option Addr) (n c : Nat) (w : World) (hq : ∀ i, i < n → ∃ ad : Addr, q = some ad ∧ ad.block < w.heap.size ∧ ∃ x : Int, 0 ≤ x ∧ x < 256 ∧ w.cell? (ad.add i) = some (.int .u8 x)) (hT : Tab w) (hG : 0 < w.heap.size) :
    Calls Tryd.prog 3 #[.slice q n c] w fun e w' => e = .returned (.bool true) ∧ Below w.heap.size w w' := by
  have HT := hid hT
  have HQ := hid hq
  clear hT hq
  by_cases hn : n ≤ 1048576
  · have hd : decide ((n : Int) > 1048576) = false := decide_eq_false (by omega)
    have BC := hid (big_calls q n c)
    rw [hd] at BC
    clear hd
    go_enter Tryd.func3, Tryd.ntmps3
    go_wp2_with (first | (go_at_call 15; refine (BC.out _).mono ?_; rintro e w0 ⟨rfl, rfl⟩) | (go_at_call 16; refine (drawn_make _ q n c hn HQ.out).mono ?_; rintro e w1 ⟨kind, ps, sv, rfl, hb1, ho1⟩; refine Hid.out ?_))
    refine hid ?_
    obtain ⟨p, cc, rfl, hcap⟩ := own_cap ho1
    have HX1 := hid (texts_of ho1)
    have HB1 := hid hb1
    have hz1 := hb1.size
    have hG1 := Nat.lt_of_lt_of_le hG hz1
    clear hb1 ho1
    by_cases hmade : madeB kind ps = true
    · obtain ⟨h3, h7, hnode, h8, hst⟩ := made_stands hmade
      obtain ⟨y, hy⟩ : ∃ y, bytesOf (tmWith kind.toNat ps) = y := ⟨_, rfl⟩
      have MS : Hid (∀ w, TextsAt w (.slice p ps.length cc) ps → Calls Tryd.prog 17 #[.int .i64 kind, .slice p ps.length cc] w fun e w' => e = .returned (.tuple #[.string y, .bool true]) ∧ Below w.heap.size w w') :=
        hid (fun w ha => by have := make_spec kind ps _ w ha; rw [hmade] at this; rw [← hy]; exact this)
      have MI : Hid (∀ w, TextsAt w (.slice p ps.length cc) ps → Tab w → 0 < w.heap.size → Calls Tryd.prog 18 #[.int .i64 kind, .slice p ps.length cc] w fun e w' => e = .returned (.tuple #[.string y, .bool true]) ∧ Below w.heap.size w w') :=
        hid (fun w ha hT hG => by have := make_impl kind ps p cc hcap w ha hT hG; rw [hmade] at this; rw [← hy]; exact this)
      have KC : Hid (∀ w, Tab w → 0 < w.heap.size → Calls Tryd.prog 20 #[.string y] w fun e w' => e = .returned (.int .i64 kind) ∧ Below w.heap.size w w') :=
        hid (fun w hT hG => by
          have := kind_impl y w hT hG
          rw [← hy, hnode] at this
          rw [← hy]
          rw [show ((kind.toNat, ps).1 : Int) = kind from Int.toNat_of_nonneg (by omega)] at this
          exact this)
      have PC : Hid (∀ w, Tab w → 0 < w.heap.size → Calls Tryd.prog 22 #[.string y] w fun e w' => ∃ sv, e = .returned sv ∧ Below w.heap.size w w' ∧ w'.ownsRow w.heap.size 9 1 sv ps.length (strs ps)) :=
        hid (fun w hT hG => by
          have := parts_impl y w hT hG
          rw [← hy, hnode] at this
          rw [← hy]
          exact this)
      have S1 : Hid (∀ w i (hi : i < ps.length), Tab w → 0 < w.heap.size → Calls Tryd.prog 19 #[.string y, .string (bytesOf ps[i])] w fun e w' => e = .returned (.bool true) ∧ Below w.heap.size w w') :=
        hid (fun w i hi hT hG => by
          have := stands_impl y (bytesOf ps[i]) w hT hG
          rw [← hy, (hst ps[i] (List.getElem_mem hi)).1] at this
          rw [← hy]
          exact this)
      have S2 : Hid (∀ w i (hi : i < ps.length), Tab w → 0 < w.heap.size → Calls Tryd.prog 19 #[.string (bytesOf ps[i]), .string y] w fun e w' => e = .returned (.bool false) ∧ Below w.heap.size w w') :=
        hid (fun w i hi hT hG => by
          have := stands_impl (bytesOf ps[i]) y w hT hG
          rw [← hy, (hst ps[i] (List.getElem_mem hi)).2] at this
          rw [← hy]
          exact this)
      have hyy : (y.toList == y.toList) = true := same_yes rfl
      have hkk : (kind == kind) = true := by rw [beq_iff_eq]
      clear hst hnode hy hmade
      go_wp2_with (go_at_call 17; refine (MS.out _ HX1.out).mono ?_; rintro e w2 ⟨rfl, hb2⟩; refine Hid.out ?_)
      refine hid ?_
      have HX2 := hid (HX1.out.on hb2)
      have HB2 := hid (HB1.out.trans (hb2.mono hz1))
      have HT2 := hid (tab_on HT.out hG HB2.out)
      have hG2 := Nat.lt_of_lt_of_le hG HB2.out.size
      clear hb2
      go_wp2_with (go_at_call 18; refine (MI.out _ HX2.out HT2.out hG2).mono ?_; rintro e w3 ⟨rfl, hb3⟩; refine Hid.out ?_)
      refine hid ?_
      have HX3 := hid (HX2.out.on hb3)
      have HB3 := hid (HB2.out.trans (hb3.mono HB2.out.size))
      clear hb3
      go_wp2
      go_loopw [9] (fun iv wr => ∃ i : Nat, i ≤ ps.length ∧ iv = .int .i64 i ∧ Hid (Below w0.heap.size w0 wr ∧ TextsAt wr (.slice p ps.length cc) ps)) (fun iv _ => ps.length - (RowKit.intOf iv).toNat)
      case atStart => exact ⟨0, Nat.zero_le _, rfl, hid ⟨HB3.out, HX3.out⟩⟩
      case round =>
        obtain ⟨i, hi, rfl, HR⟩ := hrel
        have hzr := HR.out.1.size
        have HTr := hid (tab_on HT.out hG HR.out.1)
        have hGr := Nat.lt_of_lt_of_le hG hzr
        by_cases hlt : i < ps.length
        · have hne : ps ≠ [] := fun h => by rw [h] at hlt; cases hlt
          obtain ⟨q2, c2, hqs, hq2⟩ := HR.out.2
          simp only [Value.slice.injEq, true_and] at hqs
          obtain ⟨rfl, rfl⟩ := hqs
          obtain ⟨g, rfl, hk⟩ := hq2 hne
          have hc1 := hk.2 i hlt
          have hgl := hk.1
          have C1 := hid (fun w => S1.out w i hlt)
          have C2 := hid (fun w => S2.out w i hlt)
          obtain ⟨x, hx⟩ : ∃ x, bytesOf ps[i] = x := ⟨_, rfl⟩
          rw [hx] at C1 C2
          rw [show (⟨ps[i].toArray⟩ : ByteArray) = x from hx] at hc1
          clear hx hk hq2
          go_wp2_with (go_at_call 19; refine (C1.out _ HTr.out hGr).mono ?_; rintro e w5 ⟨rfl, hb5⟩; refine Hid.out ?_)
          refine hid ?_
          have hc5 : w5.cell? ⟨g, i, none⟩ = some (.string x) := (hb5.cell (p := ⟨g, i, none⟩) hgl).trans hc1
          have HB5 := hid (HR.out.1.trans (hb5.mono hzr))
          have HX5 := hid (HR.out.2.on hb5)
          have HT5 := hid (tab_on HT.out hG HB5.out)
          have hG5 := Nat.lt_of_lt_of_le hG HB5.out.size
          clear hb5 hc1
          go_wp2_with (go_at_call 19; refine (C2.out _ HT5.out hG5).mono ?_; rintro e w6 ⟨rfl, hb6⟩; refine Hid.out ?_)
          refine hid ?_
          have HB6 := hid (HB5.out.trans (hb6.mono HB5.out.size))
          have HX6 := hid (HX5.out.on hb6)
          clear hb6 hc5
          go_wp2
          go_roundw
          case rel => exact ⟨i + 1, by omega, by go_num, hid ⟨HB6.out, HX6.out⟩⟩
          case measure => simp [RowKit.intOf]; omega
        · have hie : i = ps.length := by omega
          subst hie
          go_wp2_with (go_at_call 20; refine (KC.out _ HTr.out hGr).mono ?_; rintro e w5 ⟨rfl, hb5⟩; refine Hid.out ?_)
          refine hid ?_
          have HB5 := hid (HR.out.1.trans (hb5.mono hzr))
          have HX5 := hid (HR.out.2.on hb5)
          have HT5 := hid (tab_on HT.out hG HB5.out)
          have hG5 := Nat.lt_of_lt_of_le hG HB5.out.size
          clear hb5
          go_wp2_with (go_at_call 22; refine (PC.out _ HT5.out hG5).mono ?_; rintro e w6 ⟨s6, rfl, hb6, ho6⟩; refine Hid.out ?_)
          refine hid ?_
          have HB6 := hid (HB5.out.trans (hb6.mono HB5.out.size))
          have HX6 := hid (HX5.out.on hb6)
          have HY6 := hid (texts_of ho6)
          clear hb6 ho6
          go_wp2_with (go_at_call 21; refine (texts_same ps (by omega) _ _ _ HY6.out HX6.out).mono ?_; rintro e w7 ⟨rfl, hb7⟩; refine Hid.out ?_)
          refine hid ?_
          have HB7 := hid (HB6.out.trans (hb7.mono HB6.out.size))
          clear hb7
          go_wp2
          go_ret
          exact ⟨rfl, HB7.out⟩
    · have hf : madeB kind ps = false := by simpa using hmade
      have MS : Hid (∀ w, TextsAt w (.slice p ps.length cc) ps → Calls Tryd.prog 17 #[.int .i64 kind, .slice p ps.length cc] w fun e w' => e = .returned (.tuple #[.string ⟨#[]⟩, .bool false]) ∧ Below w.heap.size w w') :=
        hid (fun w ha => by have := make_spec kind ps _ w ha; rw [hf] at this; exact this)
      have MI : Hid (∀ w, TextsAt w (.slice p ps.length cc) ps → Tab w → 0 < w.heap.size → Calls Tryd.prog 18 #[.int .i64 kind, .slice p ps.length cc] w fun e w' => e = .returned (.tuple #[.string ⟨#[]⟩, .bool false]) ∧ Below w.heap.size w w') :=
        hid (fun w ha hT hG => by have := make_impl kind ps p cc hcap w ha hT hG; rw [hf] at this; exact this)
      clear hf hmade
      go_wp2_with (go_at_call 17; refine (MS.out _ HX1.out).mono ?_; rintro e w2 ⟨rfl, hb2⟩; refine Hid.out ?_)
      refine hid ?_
      have HX2 := hid (HX1.out.on hb2)
      have HB2 := hid (HB1.out.trans (hb2.mono hz1))
      have HT2 := hid (tab_on HT.out hG HB2.out)
      have hG2 := Nat.lt_of_lt_of_le hG HB2.out.size
      clear hb2
      go_wp2_with (go_at_call 18; refine (MI.out _ HX2.out HT2.out hG2).mono ?_; rintro e w3 ⟨rfl, hb3⟩; refine Hid.out ?_)
      refine hid ?_
      have HB3 := hid (HB2.out.trans (hb3.mono HB2.out.size))
      clear hb3
      go_wp2
      go_ret
      exact ⟨rfl, HB3.out⟩
  · have hd : decide ((n : Int) > 1048576) = true := decide_eq_true (by omega)
    have BC := hid (big_calls q n c)
    rw [hd] at BC
    clear hd
    go_enter Tryd.func3, Tryd.ntmps3
    go_wp2_with (first | (go_at_call 15; refine (BC.out _).mono ?_; rintro e w0 ⟨rfl, rfl⟩))
    go_ret
    exact ⟨rfl, Below.refl _ _⟩
end Go.Proofs.YtmjfleejjhahiaaDoor
