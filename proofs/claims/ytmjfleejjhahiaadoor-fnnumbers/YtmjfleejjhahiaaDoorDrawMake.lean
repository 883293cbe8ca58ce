/- The drawn kinds and parts: some kind, and a row of its own of some texts. -/
import Derived.Test.YtmjfleejjhahiaaDoorDrawTerm
import Derived.Deep.DeepCutAuto
namespace Go.Proofs.YtmjfleejjhahiaaDoor
open Go.RowKit
open Go.Lib (hid)

def six : Array Value := #[.string ⟨#[32]⟩, .string ⟨#[40]⟩, .string ⟨#[41]⟩, .string ⟨#[33]⟩, .string ⟨#[120]⟩, .string ⟨#[65]⟩]

theorem six_of {y : Int} (h0 : 0 ≤ y) (h1 : y < 6) : ∃ (k : Nat) (vb : ByteArray), y = k ∧ k < 6 ∧ vb.size = 1 ∧ six[k]? = some (.string vb) ∧ ∀ h : k < 6, ([Value.string ⟨#[32]⟩, .string ⟨#[40]⟩, .string ⟨#[41]⟩, .string ⟨#[33]⟩, .string ⟨#[120]⟩, .string ⟨#[65]⟩] : List Value)[k]'h = .string vb := by
  obtain ⟨k, rfl⟩ := Int.eq_ofNat_of_zero_le h0
  have hk : k = 0 ∨ k = 1 ∨ k = 2 ∨ k = 3 ∨ k = 4 ∨ k = 5 := by omega
  rcases hk with rfl | rfl | rfl | rfl | rfl | rfl
  · exact ⟨0, ⟨#[32]⟩, rfl, by omega, rfl, rfl, fun _ => rfl⟩
  · exact ⟨1, ⟨#[40]⟩, rfl, by omega, rfl, rfl, fun _ => rfl⟩
  · exact ⟨2, ⟨#[41]⟩, rfl, by omega, rfl, rfl, fun _ => rfl⟩
  · exact ⟨3, ⟨#[33]⟩, rfl, by omega, rfl, rfl, fun _ => rfl⟩
  · exact ⟨4, ⟨#[120]⟩, rfl, by omega, rfl, rfl, fun _ => rfl⟩
  · exact ⟨5, ⟨#[65]⟩, rfl, by omega, rfl, rfl, fun _ => rfl⟩

set_option maxRecDepth 20000 in
set_option maxHeartbeats 1000000 in
theorem d_odd (d : Nat) (hd : d ≤ 100) (w : World) (b : Nat) (q : Option Addr) (n c : Nat) (h : Rd w b q n c) :
    Calls Tryd.prog 53 #[.pointer (some ⟨b, 0, none⟩), .int .i64 d] w (DrawnText 4001 b q n c w) := by
  have HR := hid h
  have hbw := h.here
  clear h
  go_enter Tryd.func53, Tryd.ntmps53
  go_wp2_with (go_at_call 56; refine (term_drawn d hd _ _ _ _ _ _ rfl HR.out).mono ?_; rintro e w1 ⟨s, rfl, hsz, hr1, hs1⟩; refine Hid.out ?_)
  refine hid ?_
  have HR1 := hid hr1
  have HS1 := hid hs1
  clear hr1 hs1
  go_wp2_with (go_at_call 52; refine (d_below 20 (by omega) _ _ _ _ _ HR1.out).mono ?_; rintro e w2 ⟨x, rfl, ⟨hx0, hx1⟩, hr2, hs2⟩; refine Hid.out ?_)
  refine hid ?_
  have HR2 := hid hr2
  have HS2 := hid (HS1.out.trans hs2)
  clear hr2 hs2
  by_cases h0 : x = 0
  · subst h0
    go_wp2_with (go_at_call 52; refine (d_below _ (by omega) _ _ _ _ _ HR2.out).mono ?_; rintro e w3 ⟨i, rfl, ⟨hi0, hi1⟩, hr3, hs3⟩; refine Hid.out ?_)
    refine hid ?_
    have hi2 := hi1 (by omega)
    have HR3 := hid hr3
    have HS3 := hid (HS2.out.trans hs3)
    clear hr3 hs3 hi1
    obtain ⟨j, rfl⟩ := Int.eq_ofNat_of_zero_le hi0
    have hj : j ≤ s.size := by omega
    have hbw3 := HR3.out.here
    have hex1 : (s.extract 0 j).size ≤ 4000 := by rw [ByteArray.size_extract]; omega
    have hex2 : (s.extract j s.size).size ≤ 4000 := by rw [ByteArray.size_extract]; omega
    go_wp2
    go_region_with (go_at_call 52; refine (d_below 6 (by omega) _ _ _ _ _ (by first | exact HR3.out.drewN 1 | exact (HR3.out.drewN 1).below ((Below.refl _ _).alloc (Nat.le_refl _) _))).mono ?_; rintro e w4 ⟨y, rfl, ⟨hy0, hy1⟩, hr4, hs4⟩; obtain ⟨k, vb, rfl, hk6, hvb, hget, hgl⟩ := six_of hy0 (hy1 (by omega)); (try (have hcell : w4.cell? ⟨w3.heap.size, k, none⟩ = some (.string vb) := (by first | exact pick_cells hs4 hbw3 k _ hget | exact pick_cells (w1 := w3.drew) hs4 hbw3 k _ hget))); have hcell2 : (w4.alloc (.cells six 9)).cell? ⟨w4.heap.size, k, none⟩ = some (.string vb) := (by rw [cell_of_row _ w4.heap.size k six _ (0, 0) (heap_alloc_new w4 _)]; exact hget))
    all_goals
      have HR4 := hid hr4
      have HS4 : Hid (Step b w w4) := hid (by first | exact (HS3.out.drew.alloc _).trans hs4 | exact (HS3.out.alloc _).drew.trans hs4 | exact HS3.out.drew.trans hs4)
      have HV := hid hvb
      clear hr4 hs4 hget hcell2 hgl hvb
      go_wp2
      go_ret
      refine ⟨_, rfl, ?_, by first | exact HR4.out | exact HR4.out.below ((Below.refl _ _).alloc (Nat.le_refl _) _), by first | exact HS4.out | exact HS4.out.alloc _⟩
      rw [ByteArray.size_append, ByteArray.size_append, ByteArray.size_extract, ByteArray.size_extract, HV.out]
      omega
  · by_cases h1 : x = 1
    · subst h1
      go_wp2_with (go_at_call 52; refine (d_below _ (by omega) _ _ _ _ _ HR2.out).mono ?_; rintro e w3 ⟨i, rfl, ⟨hi0, hi1⟩, hr3, hs3⟩; refine Hid.out ?_)
      refine hid ?_
      have hi2 := hi1 (by omega)
      have HR3 := hid hr3
      have HS3 := hid (HS2.out.trans hs3)
      clear hr3 hs3 hi1
      obtain ⟨j, rfl⟩ := Int.eq_ofNat_of_zero_le hi0
      have hj : j ≤ s.size := by omega
      go_wp2
      go_ret
      exact ⟨_, rfl, by rw [ByteArray.size_extract]; omega, HR3.out, HS3.out⟩
    · have b0 : (x == 0) = false := by rw [beq_eq_false_iff_ne]; exact h0
      have b1 : (x == 1) = false := by rw [beq_eq_false_iff_ne]; exact h1
      clear h0 h1
      go_wp2
      go_ret
      exact ⟨s, rfl, by omega, HR2.out, HS2.out⟩

theorem own_cap {w : World} {base n : Nat} {sv : Value} {xs : List Value} (h : w.ownsRow base 9 1 sv n xs) : ∃ p c, sv = .slice p n c ∧ n ≤ c := by
  rcases h.2 with ⟨hv, hz⟩ | ⟨g, cap, cur, e1, _, _, hle, _⟩
  · exact ⟨none, 0, by rw [hv, hz], by omega⟩
  · exact ⟨_, _, e1, hle⟩

theorem own_block2 {w : World} {base n : Nat} {sv : Value} {xs : List Value} (h : w.ownsRow base 9 1 sv n xs) (hn : 0 < n) : ∃ g c, sv = .slice (some ⟨g, 0, none⟩) n c ∧ base ≤ g ∧ n ≤ c := by
  rcases h.2 with ⟨_, hz⟩ | ⟨g, cap, cur, e1, hb, _, hle, _⟩
  · omega
  · exact ⟨g, cap, e1, hb, hle⟩

/-- What DrawMake answers. -/
def DrawnMake (w : World) (e : Ending) (w' : World) : Prop :=
  ∃ (kind : Int) (ps : List (List UInt8)) (sv : Value), e = .returned (.tuple #[.int .i64 kind, sv]) ∧ Below w.heap.size w w' ∧ w'.ownsRow w.heap.size 9 1 sv ps.length (strs ps)

/-- Where the drawing of parts stands, its reader a block of its own. -/
structure Made (w : World) (b : Nat) (q : Option Addr) (n c : Nat) (pv : Value) (ps : List (List UInt8)) (wr : World) : Prop where
  own : wr.ownsRow (b + 1) 9 1 pv ps.length (strs ps)
  reader : Rd wr b q n c
  below : Below b w wr
  old : ∀ ad, q = some ad → ad.block < b ∨ n = 0

theorem Made.call {w : World} {b : Nat} {q : Option Addr} {n c : Nat} {pv : Value} {ps : List (List UInt8)} {wr w' : World} (h : Made w b q n c pv ps wr) (hr : Rd w' b q n c) (hs : Step b wr w') : Made w b q n c pv ps w' :=
  ⟨own_step h.own (Nat.lt_succ_self b) hs, hr, h.below.trans ⟨hs.os, hs.tape, hs.output, hs.size, fun k hk => hs.block k (by have := h.reader.here; omega) (by omega)⟩, h.old⟩

theorem Made.turn {w : World} {b : Nat} {q : Option Addr} {n c : Nat} {pv pv' : Value} {ps ps' : List (List UInt8)} {wr w' : World} (h : Made w b q n c pv ps wr) (hb : Below (b + 1) wr w') (hown : w'.ownsRow (b + 1) 9 1 pv' ps'.length (strs ps')) : Made w b q n c pv' ps' w' :=
  ⟨hown, h.reader.under (Nat.lt_succ_self b) hb (fun ad e => by
    rcases h.old ad e with h | h
    · exact Or.inl (by omega)
    · exact Or.inr h), h.below.trans (hb.mono (Nat.le_succ b)), h.old⟩

theorem Made.put {w : World} {b : Nat} {q : Option Addr} {n c : Nat} {pv pv' : Value} {ps : List (List UInt8)} {x : ByteArray} {wr w' : World} (h : Made w b q n c pv ps wr)
    (hown : w'.ownsRow (b + 1) 9 1 pv' (ps.length + 1) (strs ps ++ [.string x])) (hg : (wr.alloc (.cells #[.string x] 9)).grownBy w' pv.ownBlock) : Made w b q n c pv' (ps ++ [x.data.toList]) w' := by
  have hz := h.reader.here
  refine h.turn (((Below.refl _ _).alloc (by omega) _).grown hg (by simp; omega) (fun k hk => (h.own.lt k hk).1)) ?_
  have e : strs (ps ++ [x.data.toList]) = strs ps ++ [.string x] := by simp [strs]
  rw [List.length_append, e]
  exact hown

theorem Made.first {w : World} {b : Nat} {q : Option Addr} {n c g c6 : Nat} {ps : List (List UInt8)} {wr : World} (h : Made w b q n c (.slice (some ⟨g, 0, none⟩) ps.length c6) ps wr) (hg : b + 1 ≤ g) (x : ByteArray) : Made w b q n c (.slice (some ⟨g, 0, none⟩) ps.length c6) (ps.set 0 x.data.toList) (wr.setCell ⟨g, 0, none⟩ (.string x)) := by
  refine h.turn ((Below.refl _ _).setCell (p := ⟨g, 0, none⟩) hg _) ?_
  have hst := (h.own.stored 0 (.string x)).1
  have e : (strs ps).set 0 (.string x) = strs (ps.set 0 x.data.toList) := by unfold strs; rw [List.map_set]
  rw [e] at hst
  rw [List.length_set]
  exact hst

theorem Made.cut {w : World} {b : Nat} {q : Option Addr} {n c g c6 : Nat} {ps : List (List UInt8)} {wr : World} (h : Made w b q n c (.slice (some ⟨g, 0, none⟩) ps.length c6) ps wr) (k : Nat) (hk : k ≤ ps.length) : Made w b q n c (.slice (some ⟨g, 0, none⟩) k c6) (ps.take k) wr := by
  refine h.turn (Below.refl _ _) ?_
  have hl : (ps.take k).length = k := by rw [List.length_take]; omega
  rw [hl]
  rcases h.own.2 with ⟨e0, _⟩ | ⟨g', cap, cur, e0, hb, hg, hn, hm, hs, ht⟩
  · cases e0
  · injection e0 with e1 _ e3
    injection e1 with e1
    injection e1 with e1
    subst e1; subst e3
    refine ⟨by simp [strs]; omega, .inr ⟨g, c6, cur, rfl, hb, hg, by omega, hm, hs, ?_⟩⟩
    have h2 := congrArg (List.take k) ht
    rw [List.take_take] at h2
    rw [show min k (ps.length * 1) = k * 1 by omega] at h2
    rw [h2]
    unfold strs
    rw [List.map_take]

def sliceLen (v : Value) : Nat := match v with
  | .slice _ n _ => n
  | _ => 0

set_option maxRecDepth 20000 in
set_option maxHeartbeats 4000000 in
theorem drawn_make (w : World) (q : Option Addr) (n c : Nat) (hn : n ≤ 1048576) (hq : ∀ i, i < n → ∃ ad : Addr, q = some ad ∧ ad.block < w.heap.size ∧ ∃ x : Int, 0 ≤ x ∧ x < 256 ∧ w.cell? (ad.add i) = some (.int .u8 x)) :
    Calls Tryd.prog 16 #[.slice q n c] w (DrawnMake w) := by
  have HQ := hid hq
  have hold : ∀ ad, q = some ad → ad.block < w.heap.size ∨ n = 0 := fun ad e => by
    by_cases h0 : n = 0
    · exact Or.inr h0
    · obtain ⟨ad2, e2, hl, _⟩ := hq 0 (by omega)
      rw [e] at e2
      have := Option.some.inj e2
      subst this
      exact Or.inl hl
  have HOLD := hid hold
  clear hq hold
  go_enter Tryd.func16, Tryd.ntmps16
  go_wp2_with (go_at_call 50; refine (d_open _ q n c hn HQ.out).mono ?_; rintro e w1 ⟨rfl, hr1, hb1⟩; refine Hid.out ?_)
  refine hid ?_
  have HR1 := hid hr1
  have HB1 := hid hb1
  obtain ⟨b, hb⟩ : ∃ b, b = w.heap.size := ⟨_, rfl⟩
  rw [← hb] at HR1 ⊢
  have HBE := hid hb
  clear hr1 hb1 hb
  go_wp2_with (go_at_call 51; refine (d_off 3 7 (by omega) (by omega) (by omega) (by omega) (by omega) _ _ _ _ HR1.out).mono ?_; rintro e w2 ⟨kind, rfl, hk, hr2, hs2⟩; refine Hid.out ?_)
  refine hid ?_
  have hzb := hr2.here
  have HM2 := hid (show Made w b q n c (.slice (some ⟨w2.heap.size, 0, none⟩) 0 0) [] (w2.alloc (.cells #[] 9)) from
    ⟨own_base (none_own w2) (by omega), hr2.below ((Below.refl _ _).alloc (Nat.le_refl _) _), by
      have h1 := HB1.out
      rw [← HBE.out] at h1
      exact (h1.trans ⟨hs2.os, hs2.tape, hs2.output, hs2.size, fun k hk => hs2.block k (by have := HR1.out.here; omega) (by omega)⟩).alloc (by omega) _, by rw [HBE.out]; exact HOLD.out⟩)
  clear hr2 hs2
  go_wp2_with (go_at_call 52; refine (d_below 3 (by omega) _ _ _ _ _ (by exact HM2.out.reader)).mono ?_; rintro e w3 ⟨y, rfl, ⟨hy0, hy1⟩, hr3, hs3⟩; refine Hid.out ?_)
  refine hid ?_
  have HM3 := hid (HM2.out.call hr3 hs3)
  have hy3 := hy1 (by omega)
  obtain ⟨y, rfl⟩ := Int.eq_ofNat_of_zero_le hy0
  clear hr3 hs3 hy1
  go_wp2
  go_loopw [6, 7] (fun pv nv wr => ∃ m : Nat, ∃ ps, m ≤ 3 ∧ nv = .int .i64 m ∧ ps.length + m ≤ 3 ∧ Hid (Made w b q n c pv ps wr)) (fun _ nv _ => (RowKit.intOf nv).toNat)
  case atStart => exact ⟨1 + y, [], by omega, by go_num, by simp; omega, hid HM3.out⟩
  case round =>
    obtain ⟨m, ps, hm, rfl, hlen, HM⟩ := hrel
    by_cases hlt : 0 < m
    · go_wp2_with (go_at_call 53; refine (d_odd 2 (by omega) _ _ _ _ _ HM.out.reader).mono ?_; rintro e w5 ⟨s, rfl, hsz, hr5, hs5⟩; refine Hid.out ?_)
      refine hid ?_
      have HM5 := hid (HM.out.call hr5 hs5)
      clear hr5 hs5
      have hown5 := HM5.out.own
      have hz5 := HM5.out.reader.here
      go_wp2_with (at_builtin; refine wp_append_str rfl _ _ rfl (b + 1) _ _ _ rfl (hown5.alloc _) ⟨w5.heap.size, 0, none⟩ 1 s rfl ?c1 ?c2 ?c3 ?_)
      case c1 => simp [go_sem]
      case c2 => omega
      case c3 => simp; omega
      intro out' w6 hown6 hgrow _
      have HM6 := hid (HM5.out.put hown6 hgrow)
      clear hown6 hgrow hown5
      obtain ⟨m2, rfl⟩ : ∃ m2, m = m2 + 1 := ⟨m - 1, by omega⟩
      go_wp2
      go_roundw
      case rel => exact ⟨m2, _, by omega, by go_num, by rw [List.length_append]; simp; omega, hid HM6.out⟩
      case measure => simp [RowKit.intOf]
    · have hm0 : m = 0 := by omega
      subst hm0
      have hl3 : ps.length ≤ 3 := by omega
      clear hlen hlt hm
      go_upto_region 8 with (fail)
      go_cut [32] (fun tv wx => ∃ tt : Bool, tv = .bool tt ∧ (tt = true → 0 < ps.length) ∧ Hid (Made w b q n c u6 ps wx))
      case first =>
        go_wp2_with (go_at_call 54; refine (d_once 2 (by omega) (by omega) _ _ _ _ _ HM.out.reader).mono ?_; rintro e w5 ⟨t, rfl, hr5, hs5⟩; refine Hid.out ?_)
        refine hid ?_
        have HM5 := hid (HM.out.call hr5 hs5)
        obtain ⟨p5, c5, hu6, hcp⟩ := own_cap HM5.out.own
        clear hr5 hs5
        subst hu6
        cases t with
        | false =>
          go_wp2
          go_meet
          case rel => exact ⟨false, rfl, fun h => (by cases h), hid HM5.out⟩
        | true =>
          by_cases h0 : ps.length = 0
          · have hd : decide ((ps.length : Int) > 0) = false := decide_eq_false (by omega)
            have hd2 : decide (0 < ps.length) = false := decide_eq_false (by omega)
            clear h0
            go_wp2
            go_meet
            case rel => exact ⟨false, rfl, fun h => (by cases h), hid HM5.out⟩
          · have hd : decide ((ps.length : Int) > 0) = true := decide_eq_true (by omega)
            have hd2 : decide (0 < ps.length) = true := decide_eq_true (by omega)
            have hpos : 0 < ps.length := by omega
            clear h0
            go_wp2
            go_meet
            case rel => exact ⟨true, rfl, fun _ => hpos, hid HM5.out⟩
      case rest =>
        obtain ⟨tt, rfl, htt, HM5⟩ := hcut
        go_upto_if 32 with (fail)
        go_cut [6] (fun pv wx => ∃ ps, ps.length ≤ 3 ∧ Hid (Made w b q n c pv ps wx))
        case first =>
          cases tt with
          | false =>
            go_wp2
            go_meet
            case rel => exact ⟨ps, hl3, hid HM5.out⟩
          | true =>
            have hpos := htt rfl
            clear htt
            obtain ⟨g, c6, hu6, hbg, hcp⟩ := own_block2 HM5.out.own hpos
            subst hu6
            go_wp2_with (go_at_call 55; refine (d_name _ _ _ _ _ HM5.out.reader).mono ?_; rintro e w6 ⟨s, rfl, hsz, hr6, hs6⟩; refine Hid.out ?_)
            refine hid ?_
            have HM6 := hid (HM5.out.call hr6 hs6)
            obtain ⟨v0, hv0⟩ : ∃ v, (strs ps)[0]? = some v := ⟨_, List.getElem?_eq_getElem (by simp [strs]; omega)⟩
            have hc0 := HM6.out.own.cellAt 0 (by omega)
            rw [hv0] at hc0
            have hf0 := HM6.out.own.frozenAt 0
            clear hr6 hs6 hv0
            go_wp2
            go_meet
            case rel => exact ⟨_, by rw [List.length_set]; exact hl3, hid (HM6.out.first hbg (⟨#[33]⟩ ++ s))⟩
        case rest =>
          obtain ⟨ps2, hl2, HM6⟩ := hcut
          go_wp2_with (go_at_call 54; refine (d_once 3 (by omega) (by omega) _ _ _ _ _ HM6.out.reader).mono ?_; rintro e w7 ⟨t, rfl, hr7, hs7⟩; refine Hid.out ?_)
          refine hid ?_
          have HM7 := hid (HM6.out.call hr7 hs7)
          clear hr7 hs7
          go_upto_if 40 with (fail)
          go_cut [6] (fun pv wx => ∃ ps, ps.length ≤ 4 ∧ Hid (Made w b q n c pv ps wx))
          case first =>
            cases t with
            | true =>
              go_wp2
              go_meet
              case rel => exact ⟨ps2, by omega, hid HM7.out⟩
            | false =>
              obtain ⟨p7, c7, hu7, hcp7⟩ := own_cap HM7.out.own
              subst hu7
              by_cases k6 : kind = 6
              · subst k6
                go_wp2
                go_loopw [6] (fun pv wr => ∃ psL p cc, pv = .slice p psL.length cc ∧ psL.length ≤ cc ∧ psL.length ≤ 4 ∧ Hid (Made w b q n c pv psL wr)) (fun pv _ => 5 - sliceLen pv)
                case atStart => exact ⟨ps2, p7, c7, rfl, hcp7, by omega, hid HM7.out⟩
                case round =>
                  obtain ⟨psL, pL, cL, rfl, hcL, hlL, HML⟩ := hrel
                  by_cases hlt : psL.length < 1
                  · go_wp2_with (go_at_call 56; refine (term_drawn 1 (by omega) 1 _ _ _ _ _ rfl HML.out.reader).mono ?_; rintro e w8 ⟨s, rfl, hsz, hr8, hs8⟩; refine Hid.out ?_)
                    refine hid ?_
                    have HM8 := hid (HML.out.call hr8 hs8)
                    clear hr8 hs8
                    have hown8 := HM8.out.own
                    have hz8 := HM8.out.reader.here
                    go_wp2_with (at_builtin; refine wp_append_str rfl _ _ rfl (b + 1) _ _ _ rfl (hown8.alloc _) ⟨w8.heap.size, 0, none⟩ 1 s rfl ?c1 ?c2 ?c3 ?_)
                    case c1 => simp [go_sem]
                    case c2 => omega
                    case c3 => simp; omega
                    intro out' w9 hown9 hgrow _
                    have HM9 := hid (HM8.out.put hown9 hgrow)
                    clear hown9 hgrow hown8
                    obtain ⟨pN, cN, hN, hcN⟩ := own_cap HM9.out.own
                    subst hN
                    go_wp2
                    go_roundw
                    case rel => ((repeat apply Exists.intro); exact ⟨⟨_, pN, cN, rfl, hcN, by rw [List.length_append]; simp; omega, hid HM9.out⟩, rfl⟩)
                    case measure => simp [sliceLen]; omega
                  · obtain ⟨g, cG, hG, hbg, hcg⟩ := own_block2 HML.out.own (by omega)
                    simp only [Value.slice.injEq, true_and] at hG
                    obtain ⟨rfl, rfl⟩ := hG
                    have hWl : 1 ≤ psL.length := by omega
                    have hWc : 1 ≤ cL := by omega
                    have htl : (psL.take 1).length = 1 := by rw [List.length_take]; omega
                    have HMC := hid (HML.out.cut 1 hWl)
                    have HTL := hid htl
                    clear htl
                    go_wp2_with (go_at_call 55; refine (d_name _ _ _ _ _ HMC.out.reader).mono ?_; rintro e w8 ⟨s, rfl, hsz, hr8, hs8⟩; refine Hid.out ?_)
                    refine hid ?_
                    have HM8 : Hid (Made w b q n c (.slice (some ⟨g, 0, none⟩) (psL.take 1).length cL) (psL.take 1) w8) := hid (by rw [HTL.out]; exact HMC.out.call hr8 hs8)
                    obtain ⟨v0, hv0⟩ : ∃ v, (strs (psL.take 1))[0]? = some v := ⟨_, List.getElem?_eq_getElem (by unfold strs; rw [List.length_map, HTL.out]; omega)⟩
                    have hc0 := HM8.out.own.cellAt 0 (by rw [HTL.out]; omega)
                    rw [hv0] at hc0
                    have hf0 := HM8.out.own.frozenAt 0
                    have HM9 := hid (HM8.out.first hbg (⟨#[33]⟩ ++ s))
                    rw [HTL.out] at HM9
                    clear hr8 hs8 hv0
                    go_wp2
                    go_meet
                    case rel => exact ⟨_, by rw [List.length_set, HTL.out]; omega, hid HM9.out⟩
              · by_cases k5 : kind = 5
                · subst k5
                  go_wp2
                  go_loopw [6] (fun pv wr => ∃ psL p cc, pv = .slice p psL.length cc ∧ psL.length ≤ cc ∧ psL.length ≤ 4 ∧ Hid (Made w b q n c pv psL wr)) (fun pv _ => 5 - sliceLen pv)
                  case atStart => exact ⟨ps2, p7, c7, rfl, hcp7, by omega, hid HM7.out⟩
                  case round =>
                    obtain ⟨psL, pL, cL, rfl, hcL, hlL, HML⟩ := hrel
                    by_cases hlt : psL.length < 2
                    · go_wp2_with (go_at_call 56; refine (term_drawn 1 (by omega) 1 _ _ _ _ _ rfl HML.out.reader).mono ?_; rintro e w8 ⟨s, rfl, hsz, hr8, hs8⟩; refine Hid.out ?_)
                      refine hid ?_
                      have HM8 := hid (HML.out.call hr8 hs8)
                      clear hr8 hs8
                      have hown8 := HM8.out.own
                      have hz8 := HM8.out.reader.here
                      go_wp2_with (at_builtin; refine wp_append_str rfl _ _ rfl (b + 1) _ _ _ rfl (hown8.alloc _) ⟨w8.heap.size, 0, none⟩ 1 s rfl ?c1 ?c2 ?c3 ?_)
                      case c1 => simp [go_sem]
                      case c2 => omega
                      case c3 => simp; omega
                      intro out' w9 hown9 hgrow _
                      have HM9 := hid (HM8.out.put hown9 hgrow)
                      clear hown9 hgrow hown8
                      obtain ⟨pN, cN, hN, hcN⟩ := own_cap HM9.out.own
                      subst hN
                      go_wp2
                      go_roundw
                      case rel => ((repeat apply Exists.intro); exact ⟨⟨_, pN, cN, rfl, hcN, by rw [List.length_append]; simp; omega, hid HM9.out⟩, rfl⟩)
                      case measure => simp [sliceLen]; omega
                    · obtain ⟨g, cG, hG, hbg, hcg⟩ := own_block2 HML.out.own (by omega)
                      simp only [Value.slice.injEq, true_and] at hG
                      obtain ⟨rfl, rfl⟩ := hG
                      have hWl : 2 ≤ psL.length := by omega
                      have hWc : 2 ≤ cL := by omega
                      have htl : (psL.take 2).length = 2 := by rw [List.length_take]; omega
                      have HMC := hid (HML.out.cut 2 hWl)
                      have HTL := hid htl
                      clear htl
                      go_wp2_with (go_at_call 55; refine (d_name _ _ _ _ _ HMC.out.reader).mono ?_; rintro e w8 ⟨s, rfl, hsz, hr8, hs8⟩; refine Hid.out ?_)
                      refine hid ?_
                      have HM8 : Hid (Made w b q n c (.slice (some ⟨g, 0, none⟩) (psL.take 2).length cL) (psL.take 2) w8) := hid (by rw [HTL.out]; exact HMC.out.call hr8 hs8)
                      obtain ⟨v0, hv0⟩ : ∃ v, (strs (psL.take 2))[0]? = some v := ⟨_, List.getElem?_eq_getElem (by unfold strs; rw [List.length_map, HTL.out]; omega)⟩
                      have hc0 := HM8.out.own.cellAt 0 (by rw [HTL.out]; omega)
                      rw [hv0] at hc0
                      have hf0 := HM8.out.own.frozenAt 0
                      have HM9 := hid (HM8.out.first hbg (⟨#[33]⟩ ++ s))
                      rw [HTL.out] at HM9
                      clear hr8 hs8 hv0
                      go_wp2
                      go_meet
                      case rel => exact ⟨_, by rw [List.length_set, HTL.out]; omega, hid HM9.out⟩
                · by_cases k4 : kind = 4
                  · subst k4
                    go_wp2
                    go_loopw [6] (fun pv wr => ∃ psL p cc, pv = .slice p psL.length cc ∧ psL.length ≤ cc ∧ psL.length ≤ 4 ∧ Hid (Made w b q n c pv psL wr)) (fun pv _ => 5 - sliceLen pv)
                    case atStart => exact ⟨ps2, p7, c7, rfl, hcp7, by omega, hid HM7.out⟩
                    case round =>
                      obtain ⟨psL, pL, cL, rfl, hcL, hlL, HML⟩ := hrel
                      by_cases hlt : psL.length < 2
                      · go_wp2_with (go_at_call 56; refine (term_drawn 1 (by omega) 1 _ _ _ _ _ rfl HML.out.reader).mono ?_; rintro e w8 ⟨s, rfl, hsz, hr8, hs8⟩; refine Hid.out ?_)
                        refine hid ?_
                        have HM8 := hid (HML.out.call hr8 hs8)
                        clear hr8 hs8
                        have hown8 := HM8.out.own
                        have hz8 := HM8.out.reader.here
                        go_wp2_with (at_builtin; refine wp_append_str rfl _ _ rfl (b + 1) _ _ _ rfl (hown8.alloc _) ⟨w8.heap.size, 0, none⟩ 1 s rfl ?c1 ?c2 ?c3 ?_)
                        case c1 => simp [go_sem]
                        case c2 => omega
                        case c3 => simp; omega
                        intro out' w9 hown9 hgrow _
                        have HM9 := hid (HM8.out.put hown9 hgrow)
                        clear hown9 hgrow hown8
                        obtain ⟨pN, cN, hN, hcN⟩ := own_cap HM9.out.own
                        subst hN
                        go_wp2
                        go_roundw
                        case rel => ((repeat apply Exists.intro); exact ⟨⟨_, pN, cN, rfl, hcN, by rw [List.length_append]; simp; omega, hid HM9.out⟩, rfl⟩)
                        case measure => simp [sliceLen]; omega
                      · go_wp2
                        go_meet
                        case rel => exact ⟨psL, hlL, hid HML.out⟩
                  · have b6 : (kind == 6) = false := by rw [beq_eq_false_iff_ne]; exact k6
                    have b5 : (kind == 5) = false := by rw [beq_eq_false_iff_ne]; exact k5
                    have b4 : (kind != 4) = true := by rw [bne_iff_ne]; exact k4
                    clear k6 k5 k4
                    go_wp2
                    go_loopw [6] (fun pv wr => ∃ psL p cc, pv = .slice p psL.length cc ∧ psL.length ≤ cc ∧ psL.length ≤ 4 ∧ Hid (Made w b q n c pv psL wr)) (fun pv _ => 5 - sliceLen pv)
                    case atStart => exact ⟨ps2, p7, c7, rfl, hcp7, by omega, hid HM7.out⟩
                    case round =>
                      obtain ⟨psL, pL, cL, rfl, hcL, hlL, HML⟩ := hrel
                      by_cases hlt : psL.length < 2
                      · go_wp2_with (go_at_call 56; refine (term_drawn 1 (by omega) 1 _ _ _ _ _ rfl HML.out.reader).mono ?_; rintro e w8 ⟨s, rfl, hsz, hr8, hs8⟩; refine Hid.out ?_)
                        refine hid ?_
                        have HM8 := hid (HML.out.call hr8 hs8)
                        clear hr8 hs8
                        have hown8 := HM8.out.own
                        have hz8 := HM8.out.reader.here
                        go_wp2_with (at_builtin; refine wp_append_str rfl _ _ rfl (b + 1) _ _ _ rfl (hown8.alloc _) ⟨w8.heap.size, 0, none⟩ 1 s rfl ?c1 ?c2 ?c3 ?_)
                        case c1 => simp [go_sem]
                        case c2 => omega
                        case c3 => simp; omega
                        intro out' w9 hown9 hgrow _
                        have HM9 := hid (HM8.out.put hown9 hgrow)
                        clear hown9 hgrow hown8
                        obtain ⟨pN, cN, hN, hcN⟩ := own_cap HM9.out.own
                        subst hN
                        go_wp2
                        go_roundw
                        case rel => ((repeat apply Exists.intro); exact ⟨⟨_, pN, cN, rfl, hcN, by rw [List.length_append]; simp; omega, hid HM9.out⟩, rfl⟩)
                        case measure => simp [sliceLen]; omega
                      · obtain ⟨g, cG, hG, hbg, hcg⟩ := own_block2 HML.out.own (by omega)
                        simp only [Value.slice.injEq, true_and] at hG
                        obtain ⟨rfl, rfl⟩ := hG
                        have hWl : 2 ≤ psL.length := by omega
                        have hWc : 2 ≤ cL := by omega
                        have htl : (psL.take 2).length = 2 := by rw [List.length_take]; omega
                        have HMC := hid (HML.out.cut 2 hWl)
                        have HTL := hid htl
                        clear htl
                        go_wp2
                        go_meet
                        case rel => exact ⟨_, by rw [HTL.out]; omega, hid HMC.out⟩
          case rest =>
            obtain ⟨ps3, hl4, HM8⟩ := hcut
            go_wp2_with (go_at_call 54; refine (d_once 24 (by omega) (by omega) _ _ _ _ _ HM8.out.reader).mono ?_; rintro e w8 ⟨t8, rfl, hr8, hs8⟩; refine Hid.out ?_)
            refine hid ?_
            have HM9 := hid (HM8.out.call hr8 hs8)
            clear hr8 hs8
            go_upto_if 69 with (fail)
            go_cut [6] (fun pv wx => ∃ ps, ps.length ≤ 5 ∧ Hid (Made w b q n c pv ps wx))
            case first =>
              cases t8 with
              | false =>
                go_wp2
                go_meet
                case rel => exact ⟨ps3, by omega, hid HM9.out⟩
              | true =>
                have hown9 := HM9.out.own
                have hz9 := HM9.out.reader.here
                go_wp2_with (at_builtin; refine wp_append_str rfl _ _ rfl (b + 1) _ _ _ rfl (hown9.alloc _) ⟨w8.heap.size, 0, none⟩ 1 ⟨#[97, 32, 98]⟩ rfl ?c1 ?c2 ?c3 ?_)
                case c1 => simp [go_sem]
                case c2 => omega
                case c3 => simp; omega
                intro out' w9 hown10 hgrow _
                have HM10 := hid (HM9.out.put hown10 hgrow)
                clear hown10 hgrow hown9
                go_wp2
                go_meet
                case rel => exact ⟨_, by rw [List.length_append]; simp; omega, hid HM10.out⟩
            case rest =>
              obtain ⟨ps5, hl5, HM11⟩ := hcut
              go_wp2_with (go_at_call 54; refine (d_once 24 (by omega) (by omega) _ _ _ _ _ HM11.out.reader).mono ?_; rintro e w10 ⟨t10, rfl, hr10, hs10⟩; refine Hid.out ?_)
              refine hid ?_
              have HM12 := hid (HM11.out.call hr10 hs10)
              clear hr10 hs10
              go_upto_if 74 with (fail)
              go_cut [6] (fun pv wx => ∃ ps, Hid (Made w b q n c pv ps wx))
              case first =>
                cases t10 with
                | false =>
                  go_wp2
                  go_meet
                  case rel => exact ⟨ps5, hid HM12.out⟩
                | true =>
                  obtain ⟨p12, c12, hu12, hcp12⟩ := own_cap HM12.out.own
                  subst hu12
                  go_wp2
                  go_loopw [6] (fun pv wr => ∃ psL p cc, pv = .slice p psL.length cc ∧ psL.length ≤ 10 ∧ Hid (Made w b q n c pv psL wr)) (fun pv _ => 11 - sliceLen pv)
                  case atStart => exact ⟨ps5, p12, c12, rfl, by omega, hid HM12.out⟩
                  case round =>
                    obtain ⟨psL, pL, cL, rfl, hlL, HML⟩ := hrel
                    go_wp2_with (go_at_call 52; refine (d_below 2 (by omega) _ _ _ _ _ HML.out.reader).mono ?_; rintro e w13 ⟨z, rfl, ⟨hz0, hz1⟩, hr13, hs13⟩; refine Hid.out ?_)
                    refine hid ?_
                    have hz2 := hz1 (by omega)
                    have HM14 := hid (HML.out.call hr13 hs13)
                    clear hr13 hs13 hz1
                    by_cases hlt : (psL.length : Int) < 8 + z
                    · have hown14 := HM14.out.own
                      have hz14 := HM14.out.reader.here
                      go_wp2_with (at_builtin; refine wp_append_str rfl _ _ rfl (b + 1) _ _ _ rfl (hown14.alloc _) ⟨w13.heap.size, 0, none⟩ 1 ⟨#[97]⟩ rfl ?c1 ?c2 ?c3 ?_)
                      case c1 => simp [go_sem]
                      case c2 => omega
                      case c3 => simp; omega
                      intro out' w15 hown15 hgrow _
                      have HM15 := hid (HM14.out.put hown15 hgrow)
                      clear hown15 hgrow hown14
                      obtain ⟨pN, cN, hN, hcN⟩ := own_cap HM15.out.own
                      subst hN
                      go_wp2
                      go_roundw
                      case rel => exact ⟨_, pN, cN, rfl, by rw [List.length_append]; simp; omega, hid HM15.out⟩
                      case measure => simp [sliceLen]; omega
                    · go_wp2
                      go_meet
                      case rel => exact ⟨psL, hid HM14.out⟩
              case rest =>
                obtain ⟨ps6, HM13⟩ := hcut
                have hfin : Below w.heap.size w wc ∧ wc.ownsRow w.heap.size 9 1 u6 ps6.length (strs ps6) := ⟨by rw [← HBE.out]; exact HM13.out.below, own_base HM13.out.own (by rw [← HBE.out]; omega)⟩
                have HF := hid hfin
                clear hfin
                go_wp2
                go_ret2
                exact ⟨kind, ps6, u6, rfl, HF.out.1, HF.out.2⟩
end Go.Proofs.YtmjfleejjhahiaaDoor
