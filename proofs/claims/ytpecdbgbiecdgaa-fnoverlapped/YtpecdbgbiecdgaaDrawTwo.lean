/- Two drawn lists of floats. -/
import Derived.Test.YtpecdbgbiecdgaaDrawLaw
import Derived.Test.YtpecdbgbiecdgaaDrawFloats
namespace Go.Proofs.Ytpecdbgbiecdgaa
open Go.RowKit
open Go.Lib (hid)

attribute [local go_sem] run_fadd run_fsub run_fmul run_fquo run_fneg run_store_float

/-- Where the drawing of two lists stands. -/
structure FlG2 (w : World) (b : Nat) (q : Option Addr) (n c : Nat) (v1 v2 : Value) (l1 l2 : List Nat) (wr : World) : Prop where
  own1 : wr.ownsRow w.heap.size 31 1 v1 l1.length (fls l1)
  own2 : wr.ownsRow w.heap.size 31 1 v2 l2.length (fls l2)
  apart : ∀ j k, v1.ownBlock = some j → v2.ownBlock = some k → j ≠ k
  reader : Rd wr b q n c
  step : Step b w wr

theorem FlG2.call {w : World} {b : Nat} {q : Option Addr} {n c : Nat} {v1 v2 : Value} {l1 l2 : List Nat} {wr w' : World} (h : FlG2 w b q n c v1 v2 l1 l2 wr) (hb : b < w.heap.size) (hr : Rd w' b q n c) (hs : Step b wr w') : FlG2 w b q n c v1 v2 l1 l2 w' :=
  ⟨own_step h.own1 hb hs, own_step h.own2 hb hs, h.apart, hr, h.step.trans hs⟩

theorem own_other {w w' : World} {base n : Nat} {e : TypeId} {v : Value} {row : Option Nat} {xs : List Value} (h : w.ownsRow base e 1 v n xs) (hg : w.grownBy w' row) (ha : ∀ j k, v.ownBlock = some j → row = some k → j ≠ k) : w'.ownsRow base e 1 v n xs := by
  refine h.kept hg ?_
  cases hv : v.ownBlock with
  | none => exact .inl rfl
  | some j => exact .inr (fun hr => ha j j hv hr.symm rfl)

theorem FlG2.put1 {w : World} {b : Nat} {q : Option Addr} {n c : Nat} {v1 v2 v' : Value} {l1 l2 : List Nat} {y : Nat} {cs : Array Value} {t : TypeId} {wr w' : World} (h : FlG2 w b q n c v1 v2 l1 l2 wr) (hb : b < w.heap.size) (hq : ∀ ad, q = some ad → ad.block < w.heap.size ∨ n = 0)
    (hown : w'.ownsRow w.heap.size 31 1 v' (l1.length + 1) (fls l1 ++ fls [y])) (hg : (wr.alloc (.cells cs t)).grownBy w' v1.ownBlock) (hv : v'.ownBlock = v1.ownBlock ∨ v'.ownBlock = some (wr.heap.size + 1)) : FlG2 w b q n c v' v2 (l1 ++ [y]) l2 w' := by
  have hlt := fun j hj => (h.own1.lt j hj).1
  have hs1 : Step b w (wr.alloc (.cells cs t)) := h.step.alloc _
  refine ⟨by rw [List.length_append, fls_append]; exact hown, own_other (h.own2.alloc _) hg (fun j k hj hk => fun e => h.apart k j hk hj e.symm), ?_, ?_, step_grown hs1 hg hlt⟩
  · intro j k hj hk
    rcases hv with hv | hv
    · exact h.apart j k (hv ▸ hj) hk
    · have h2 := (h.own2.lt k hk).2
      rw [hv] at hj
      injection hj with hj
      omega
  · have hr := h.reader.below ((Below.refl wr.heap.size wr).alloc (Nat.le_refl _) (.cells cs t))
    have hbl : Below w.heap.size (wr.alloc (.cells cs t)) w' :=
      ⟨hg.os, hg.tape, hg.output, hg.size, fun j hj => hg.block j (Nat.lt_of_lt_of_le hj hs1.size) (fun e => by have := hlt j e.symm; omega)⟩
    exact hr.under hb hbl hq

theorem FlG2.put2 {w : World} {b : Nat} {q : Option Addr} {n c : Nat} {v1 v2 v' : Value} {l1 l2 : List Nat} {y : Nat} {cs : Array Value} {t : TypeId} {wr w' : World} (h : FlG2 w b q n c v1 v2 l1 l2 wr) (hb : b < w.heap.size) (hq : ∀ ad, q = some ad → ad.block < w.heap.size ∨ n = 0)
    (hown : w'.ownsRow w.heap.size 31 1 v' (l2.length + 1) (fls l2 ++ fls [y])) (hg : (wr.alloc (.cells cs t)).grownBy w' v2.ownBlock) (hv : v'.ownBlock = v2.ownBlock ∨ v'.ownBlock = some (wr.heap.size + 1)) : FlG2 w b q n c v1 v' l1 (l2 ++ [y]) w' := by
  have hlt := fun j hj => (h.own2.lt j hj).1
  have hs1 : Step b w (wr.alloc (.cells cs t)) := h.step.alloc _
  refine ⟨own_other (h.own1.alloc _) hg (fun j k hj hk => h.apart j k hj hk), by rw [List.length_append, fls_append]; exact hown, ?_, ?_, step_grown hs1 hg hlt⟩
  · intro j k hj hk
    rcases hv with hv | hv
    · exact h.apart j k hj (hv ▸ hk)
    · have h2 := (h.own1.lt j hj).2
      rw [hv] at hk
      injection hk with hk
      omega
  · have hr := h.reader.below ((Below.refl wr.heap.size wr).alloc (Nat.le_refl _) (.cells cs t))
    have hbl : Below w.heap.size (wr.alloc (.cells cs t)) w' :=
      ⟨hg.os, hg.tape, hg.output, hg.size, fun j hj => hg.block j (Nat.lt_of_lt_of_le hj hs1.size) (fun e => by have := hlt j e.symm; omega)⟩
    exact hr.under hb hbl hq

theorem FlG2.start {w : World} {b : Nat} {q : Option Addr} {n c : Nat} (hr : Rd w b q n c) : FlG2 w b q n c (.slice (some ⟨w.heap.size, 0, Option.none⟩) 0 0) (.slice (some ⟨w.heap.size + 1, 0, Option.none⟩) 0 0) [] [] ((w.alloc (.cells #[] 31)).alloc (.cells #[] 31)) := by
  have h1 : (w.alloc (.cells #[] 31)).ownsRow w.heap.size 31 1 (.slice (some ⟨w.heap.size, 0, none⟩) 0 0) 0 [] := World.ownsRow_made w #[] 0 (Nat.le_refl _) (Nat.zero_le _) rfl
  have h2 : ((w.alloc (.cells #[] 31)).alloc (.cells #[] 31)).ownsRow (w.alloc (.cells #[] 31)).heap.size 31 1 (.slice (some ⟨(w.alloc (.cells #[] 31)).heap.size, 0, none⟩) 0 0) 0 [] := World.ownsRow_made _ #[] 0 (Nat.le_refl _) (Nat.zero_le _) rfl
  have hz : (w.alloc (.cells #[] 31)).heap.size = w.heap.size + 1 := by simp
  rw [hz] at h2
  refine ⟨h1.alloc _, own_baseF h2 (by omega), ?_, (hr.below ((Below.refl _ _).alloc (Nat.le_refl _) _)).below ((Below.refl _ _).alloc (Nat.le_refl _) _), ((Step.refl b w).alloc _).alloc _⟩
  intro j k hj hk
  have hj : some w.heap.size = some j := hj
  have hk : some (w.heap.size + 1) = some k := hk
  injection hj with hj
  injection hk with hk
  omega

theorem d_sizeF (w : World) (b : Nat) (q : Option Addr) (n c : Nat) (h : Rd w b q n c) :
    Calls Try.prog 100 #[.pointer (some ⟨b, 0, none⟩), .int .i64 6, .int .i64 7] w fun e w' => ∃ x : Int, e = .returned (.int .i64 x) ∧ 1 ≤ x ∧ x ≤ 7 ∧ Rd w' b q n c ∧ Step b w w' := by
  have HR := hid h
  have hdata := h.data
  have hfew := h.few
  clear h
  by_cases hc : (n : Int) / 6 + 1 > 7
  · have e1 : 1 + (n : Int) / 6 > 7 := by omega
    clear hc
    go_enter Try.func100, Try.ntmps100
    go_wp2_with (go_at_call 93; refine (d_below _ (by omega) _ _ _ _ _ HR.out).mono ?_; rintro e w1 ⟨x, rfl, ⟨hx0, hx1⟩, hr1, hs1⟩; refine Hid.out ?_)
    refine hid ?_
    have HR1 := hid hr1
    have HS1 := hid hs1
    have hx2 := hx1 (by omega)
    clear hr1 hs1
    go_wp2
    go_ret
    exact ⟨1 + x, rfl, by omega, by omega, HR1.out, HS1.out⟩
  · have e1 : ¬ 1 + (n : Int) / 6 > 7 := by omega
    have e2 : 0 ≤ (n : Int) / 6 := by omega
    clear hc
    go_enter Try.func100, Try.ntmps100
    go_wp2_with (go_at_call 93; refine (d_below _ (by omega) _ _ _ _ _ HR.out).mono ?_; rintro e w1 ⟨x, rfl, ⟨hx0, hx1⟩, hr1, hs1⟩; refine Hid.out ?_)
    refine hid ?_
    have HR1 := hid hr1
    have HS1 := hid hs1
    have hx2 := hx1 (by omega)
    clear hr1 hs1
    go_wp2
    go_ret
    exact ⟨1 + x, rfl, by omega, by omega, HR1.out, HS1.out⟩

set_option maxRecDepth 20000 in
set_option maxHeartbeats 8000000 in
theorem drawn_overlap (w : World) (q : Option Addr) (n c : Nat) (hn : n ≤ 1048576) (hq : TBytes w q n) :
    Calls Try.prog 52 #[.slice q n c] w fun e w' => ∃ (v1 v2 : Value) (l1 l2 : List Nat), e = .returned (.tuple #[v1, v2]) ∧ l1.length ≤ 8 ∧ l2.length ≤ 8 ∧ RowFl w' v1 l1 ∧ RowFl w' v2 l2 ∧ Below w.heap.size w w' := by
  have HQ := hid hq
  clear hq
  obtain ⟨w0, hw0⟩ : ∃ W, W = w := ⟨_, rfl⟩
  go_enter Try.func52, Try.ntmps52
  go_wp2_with (go_at_call 89; refine (d_open _ q n c hn HQ.out).mono ?_; rintro e w1 ⟨rfl, hr1, hb1⟩; refine Hid.out ?_)
  refine hid ?_
  have HB1 := hid hb1
  have HG1 := hid (FlG2.start hr1)
  have HOLD := hid hr1.old
  have hbw : w.heap.size < w1.heap.size := hr1.here
  clear hr1 hb1
  clear hw0 w0
  go_wp2_with (go_at_call 96; refine (nearF (-20) 20 (by omega) (by omega) (by omega) _ _ _ _ _ HG1.out.reader (by omega) (by omega)).mono ?_; rintro e w2 ⟨z, rfl, hz0, hz1, hr2, hs2⟩; refine Hid.out ?_)
  refine hid ?_
  have HG2 := hid (HG1.out.call hbw hr2 hs2)
  clear hr2 hs2 HG1 hz0 hz1
  go_wp2_with (go_at_call 100; refine (d_sizeF _ _ _ _ _ HG2.out.reader).mono ?_; rintro e w3 ⟨m, rfl, hm0, hm1, hr3, hs3⟩; refine Hid.out ?_)
  refine hid ?_
  have HG3 := hid (HG2.out.call hbw hr3 hs3)
  clear hr3 hs3 HG2
  obtain ⟨m0, rfl⟩ := Int.eq_ofNat_of_zero_le (show 0 ≤ m by omega)
  go_wp2
  generalize floatOfInt .f64 z = fz at *
  go_loopw [5, 6, 8] (fun av bv nv wr => ∃ k : Nat, ∃ l1 l2, k ≤ 7 ∧ nv = .int .i64 k ∧ l1.length + k ≤ 7 ∧ l2.length = l1.length ∧ Hid (FlG2 w1 w.heap.size q n c av bv l1 l2 wr)) (fun _ _ nv _ => (RowKit.intOf nv).toNat)
  case atStart => exact ⟨m0, [], [], by omega, rfl, by simp; omega, rfl, HG3⟩
  case round =>
    clear HG3 hm0 hm1
    obtain ⟨k, l1, l2, hk, rfl, hlen, hl2, HG⟩ := hrel
    have HL2 := hid hl2
    by_cases hlt : 0 < k
    · obtain ⟨k2, rfl⟩ : ∃ k2, k = k2 + 1 := ⟨k - 1, by omega⟩
      have hl1 : l1.length ≤ 7 := by omega
      have hl3 : l2.length ≤ 7 := by omega
      clear hl2
      go_wp2_with (go_at_call 93; refine (d_below 9 (by omega) _ _ _ _ _ HG.out.reader).mono ?_; rintro e w11 ⟨u11, rfl, ⟨hu0, hu1⟩, hr11, hs11⟩; refine Hid.out ?_)
      refine hid ?_
      have HG11 := hid (HG.out.call hbw hr11 hs11)
      clear hr11 hs11 hu1
      go_wp2_with (go_at_call 93; refine (d_below 9 (by omega) _ _ _ _ _ (rd_fw HG11.out.reader _ _ _)).mono ?_; rintro e w12 ⟨u12, rfl, ⟨hu0, hu1⟩, hr12, hs12⟩; refine Hid.out ?_)
      refine hid ?_
      have HG12 := hid (HG11.out.call hbw hr12 ((step_fw (Step.refl _ _) _ _ _).trans hs12))
      clear hr12 hs12 hu1
      go_wp2_with (go_at_call 91; refine (d_once 10 (by omega) (by omega) _ _ _ _ _ (rd_fw HG12.out.reader _ _ _)).mono ?_; rintro e w13 ⟨t13, rfl, hr13, hs13⟩; refine Hid.out ?_)
      refine hid ?_
      have HG13 := hid (HG12.out.call hbw hr13 ((step_fw (Step.refl _ _) _ _ _).trans hs13))
      clear hr13 hs13 HG11 HG12 HG
      cases t13 with
      | true =>
        go_wp2_with (go_at_call 90; refine (d_float _ _ _ _ _ HG13.out.reader).mono ?_; unfold DrawnF; rintro e w14 ⟨s14, rfl, hx14, hr14, hs14⟩; refine Hid.out ?_)
        refine hid ?_
        have HG14 := hid (HG13.out.call hbw hr14 hs14)
        clear hr14 hs14 hx14
        go_wp2_with (go_at_call 91; refine (d_once 10 (by omega) (by omega) _ _ _ _ _ HG14.out.reader).mono ?_; rintro e w15 ⟨t15, rfl, hr15, hs15⟩; refine Hid.out ?_)
        refine hid ?_
        have HG15 := hid (HG14.out.call hbw hr15 hs15)
        clear hr15 hs15
        cases t15 with
        | true =>
          go_wp2_with (go_at_call 90; refine (d_float _ _ _ _ _ HG15.out.reader).mono ?_; unfold DrawnF; rintro e w16 ⟨s16, rfl, hx16, hr16, hs16⟩; refine Hid.out ?_)
          refine hid ?_
          have HG16 := hid (HG15.out.call hbw hr16 hs16)
          clear hr16 hs16 hx16
          go_wp2_with (at_builtin; refine wp_append_fls rfl _ _ rfl w1.heap.size _ _ _ rfl (HG16.out.own1.alloc _) _ [_] rfl (row_flit _ _ _) ?c2 ?c3 (fun c h => by cases h) ?_)
          case c2 => simp; omega
          case c3 => have := HG16.out.step.size; simp; omega
          intro v20 w20 hown20 hgrow20 hv20
          have HG20 := hid (HG16.out.put1 hbw HOLD.out hown20 hgrow20 hv20)
          clear hown20 hgrow20 hv20
          go_wp2_with (at_builtin; refine wp_append_fls rfl _ _ rfl w1.heap.size _ _ _ rfl (HG20.out.own2.alloc _) _ [_] rfl (row_flit _ _ _) ?c2 ?c3 (fun c h => by cases h) ?_)
          case c2 => simp; omega
          case c3 => have := HG20.out.step.size; simp; omega
          intro v21 w21 hown21 hgrow21 hv21
          have HG21 := hid (HG20.out.put2 hbw HOLD.out hown21 hgrow21 hv21)
          clear hown21 hgrow21 hv21
          go_wp2
          go_roundw
          case rel => exact ⟨k2, _, _, by omega, by go_num, by rw [List.length_append]; simp; omega, by rw [List.length_append, List.length_append, HL2.out]; rfl, hid HG21.out⟩
          case measure => simp [RowKit.intOf]
        | false =>
          go_wp2_with (at_builtin; refine wp_append_fls rfl _ _ rfl w1.heap.size _ _ _ rfl (HG15.out.own1.alloc _) _ [_] rfl (row_flit _ _ _) ?c2 ?c3 (fun c h => by cases h) ?_)
          case c2 => simp; omega
          case c3 => have := HG15.out.step.size; simp; omega
          intro v20 w20 hown20 hgrow20 hv20
          have HG20 := hid (HG15.out.put1 hbw HOLD.out hown20 hgrow20 hv20)
          clear hown20 hgrow20 hv20
          go_wp2_with (at_builtin; refine wp_append_fls rfl _ _ rfl w1.heap.size _ _ _ rfl (HG20.out.own2.alloc _) _ [_] rfl (row_flit _ _ _) ?c2 ?c3 (fun c h => by cases h) ?_)
          case c2 => simp; omega
          case c3 => have := HG20.out.step.size; simp; omega
          intro v21 w21 hown21 hgrow21 hv21
          have HG21 := hid (HG20.out.put2 hbw HOLD.out hown21 hgrow21 hv21)
          clear hown21 hgrow21 hv21
          go_wp2
          go_roundw
          case rel => exact ⟨k2, _, _, by omega, by go_num, by rw [List.length_append]; simp; omega, by rw [List.length_append, List.length_append, HL2.out]; rfl, hid HG21.out⟩
          case measure => simp [RowKit.intOf]
      | false =>
        go_wp2_with (go_at_call 91; refine (d_once 10 (by omega) (by omega) _ _ _ _ _ HG13.out.reader).mono ?_; rintro e w15 ⟨t15, rfl, hr15, hs15⟩; refine Hid.out ?_)
        refine hid ?_
        have HG15 := hid (HG13.out.call hbw hr15 hs15)
        clear hr15 hs15
        cases t15 with
        | true =>
          go_wp2_with (go_at_call 90; refine (d_float _ _ _ _ _ HG15.out.reader).mono ?_; unfold DrawnF; rintro e w16 ⟨s16, rfl, hx16, hr16, hs16⟩; refine Hid.out ?_)
          refine hid ?_
          have HG16 := hid (HG15.out.call hbw hr16 hs16)
          clear hr16 hs16 hx16
          go_wp2_with (at_builtin; refine wp_append_fls rfl _ _ rfl w1.heap.size _ _ _ rfl (HG16.out.own1.alloc _) _ [_] rfl (row_flit _ _ _) ?c2 ?c3 (fun c h => by cases h) ?_)
          case c2 => simp; omega
          case c3 => have := HG16.out.step.size; simp; omega
          intro v20 w20 hown20 hgrow20 hv20
          have HG20 := hid (HG16.out.put1 hbw HOLD.out hown20 hgrow20 hv20)
          clear hown20 hgrow20 hv20
          go_wp2_with (at_builtin; refine wp_append_fls rfl _ _ rfl w1.heap.size _ _ _ rfl (HG20.out.own2.alloc _) _ [_] rfl (row_flit _ _ _) ?c2 ?c3 (fun c h => by cases h) ?_)
          case c2 => simp; omega
          case c3 => have := HG20.out.step.size; simp; omega
          intro v21 w21 hown21 hgrow21 hv21
          have HG21 := hid (HG20.out.put2 hbw HOLD.out hown21 hgrow21 hv21)
          clear hown21 hgrow21 hv21
          go_wp2
          go_roundw
          case rel => exact ⟨k2, _, _, by omega, by go_num, by rw [List.length_append]; simp; omega, by rw [List.length_append, List.length_append, HL2.out]; rfl, hid HG21.out⟩
          case measure => simp [RowKit.intOf]
        | false =>
          go_wp2_with (at_builtin; refine wp_append_fls rfl _ _ rfl w1.heap.size _ _ _ rfl (HG15.out.own1.alloc _) _ [_] rfl (row_flit _ _ _) ?c2 ?c3 (fun c h => by cases h) ?_)
          case c2 => simp; omega
          case c3 => have := HG15.out.step.size; simp; omega
          intro v20 w20 hown20 hgrow20 hv20
          have HG20 := hid (HG15.out.put1 hbw HOLD.out hown20 hgrow20 hv20)
          clear hown20 hgrow20 hv20
          go_wp2_with (at_builtin; refine wp_append_fls rfl _ _ rfl w1.heap.size _ _ _ rfl (HG20.out.own2.alloc _) _ [_] rfl (row_flit _ _ _) ?c2 ?c3 (fun c h => by cases h) ?_)
          case c2 => simp; omega
          case c3 => have := HG20.out.step.size; simp; omega
          intro v21 w21 hown21 hgrow21 hv21
          have HG21 := hid (HG20.out.put2 hbw HOLD.out hown21 hgrow21 hv21)
          clear hown21 hgrow21 hv21
          go_wp2
          go_roundw
          case rel => exact ⟨k2, _, _, by omega, by go_num, by rw [List.length_append]; simp; omega, by rw [List.length_append, List.length_append, HL2.out]; rfl, hid HG21.out⟩
          case measure => simp [RowKit.intOf]
    · have hk0 : k = 0 := by omega
      subst hk0
      have hl1 : l1.length ≤ 7 := by omega
      have hl3 : l2.length ≤ 7 := by omega
      clear hl2 hlen hlt
      go_wp2_with (go_at_call 93; refine (d_below 24 (by omega) _ _ _ _ _ HG.out.reader).mono ?_; rintro e w11 ⟨u11, rfl, ⟨hu0, hu1⟩, hr11, hs11⟩; refine Hid.out ?_)
      refine hid ?_
      have HG11 := hid (HG.out.call hbw hr11 hs11)
      clear hr11 hs11 hu1
      by_cases e0 : u11 = 0
      · subst e0
        go_wp2_with (at_builtin; refine wp_append_fls rfl _ _ rfl w1.heap.size _ _ _ rfl (HG11.out.own1.alloc _) _ [_] rfl (row_flit _ _ _) ?c2 ?c3 (fun c h => by cases h) ?_)
        case c2 => simp; omega
        case c3 => have := HG11.out.step.size; simp; omega
        intro v20 w20 hown20 hgrow20 hv20
        have HG20 := hid (HG11.out.put1 hbw HOLD.out hown20 hgrow20 hv20)
        clear hown20 hgrow20 hv20
        go_wp2
        exact bodyPost_ret (v := .tuple #[_, _]) (by simp [results, Try.results52, go_sem]) rfl ⟨_, _, _, _, rfl, by rw [List.length_append]; simp; omega, by omega, row_fl_own HG20.out.own1, row_fl_own HG20.out.own2, step_tail HB1.out HG20.out.step (Nat.le_refl _)⟩
      · by_cases e1 : u11 = 1
        · subst e1
          go_wp2
          exact bodyPost_ret (v := .tuple #[.slice none 0 0, .slice none 0 0]) (by simp [results, Try.results52, go_sem]) rfl ⟨_, _, [], [], rfl, by simp, by simp, ⟨none, 0, rfl, Nat.le_refl _, fun h => absurd rfl h⟩, ⟨none, 0, rfl, Nat.le_refl _, fun h => absurd rfl h⟩, step_tail HB1.out HG11.out.step (Nat.le_refl _)⟩
        · have n0 : (u11 == 0) = false := by simpa using e0
          have n1 : (u11 == 1) = false := by simpa using e1
          clear e0 e1
          go_wp2
          exact bodyPost_ret (v := .tuple #[_, _]) (by simp [results, Try.results52, go_sem]) rfl ⟨_, _, _, _, rfl, by omega, by omega, row_fl_own HG11.out.own1, row_fl_own HG11.out.own2, step_tail HB1.out HG11.out.step (Nat.le_refl _)⟩
end Go.Proofs.Ytpecdbgbiecdgaa
