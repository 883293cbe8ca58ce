/- Drawn readings of a clock. -/
import Derived.Test.YthpnlhbfginkjaaDrawMarks
import Derived.Test.YthpnlhbfginkjaaIntKit
import Derived.Test.YthpnlhbfginkjaaDriftBoth
namespace Go.Proofs.Ythpnlhbfginkjaa
open Go.RowKit
open Go.Lib (hid)

attribute [local go_sem] run_fadd run_fsub run_fmul run_fquo run_fneg run_store_float

/-- Where the drawing of readings stands. -/
structure MxG (w : World) (b : Nat) (q : Option Addr) (n c : Nat) (v1 v2 : Value) (l1 : List Int) (l2 : List Nat) (wr : World) : Prop where
  own1 : wr.ownsRow w.heap.size 2 1 v1 l1.length (ints l1)
  own2 : wr.ownsRow w.heap.size 24 1 v2 l2.length (fls l2)
  apart : ∀ j k, v1.ownBlock = some j → v2.ownBlock = some k → j ≠ k
  reader : Rd wr b q n c
  step : Step b w wr
  small : ∀ x ∈ l2, x < 18446744073709551616

theorem MxG.call {w : World} {b : Nat} {q : Option Addr} {n c : Nat} {v1 v2 : Value} {l1 : List Int} {l2 : List Nat} {wr w' : World} (h : MxG w b q n c v1 v2 l1 l2 wr) (hb : b < w.heap.size) (hr : Rd w' b q n c) (hs : Step b wr w') : MxG w b q n c v1 v2 l1 l2 w' :=
  ⟨own_step h.own1 hb hs, own_step h.own2 hb hs, h.apart, hr, h.step.trans hs, h.small⟩

theorem MxG.on {w : World} {b : Nat} {q : Option Addr} {n c : Nat} {v1 v2 : Value} {l1 : List Int} {l2 : List Nat} {wr w' : World} (h : MxG w b q n c v1 v2 l1 l2 wr) (hb : b < w.heap.size) (hs : Below wr.heap.size wr w') : MxG w b q n c v1 v2 l1 l2 w' :=
  h.call hb (h.reader.below hs) (step_belowF (Step.refl _ _) hs)

theorem MxG.put1 {w : World} {b : Nat} {q : Option Addr} {n c : Nat} {v1 v2 v' : Value} {l1 : List Int} {l2 : List Nat} {y : Int} {cs : Array Value} {t : TypeId} {wr w' : World} (h : MxG w b q n c v1 v2 l1 l2 wr) (hb : b < w.heap.size) (hq : ∀ ad, q = some ad → ad.block < w.heap.size ∨ n = 0)
    (hown : w'.ownsRow w.heap.size 2 1 v' (l1.length + 1) (ints l1 ++ ints [y])) (hg : (wr.alloc (.cells cs t)).grownBy w' v1.ownBlock) (hv : v'.ownBlock = v1.ownBlock ∨ v'.ownBlock = some (wr.heap.size + 1)) : MxG w b q n c v' v2 (l1 ++ [y]) l2 w' := by
  have hlt := fun j hj => (h.own1.lt j hj).1
  have hs1 : Step b w (wr.alloc (.cells cs t)) := h.step.alloc _
  refine ⟨by rw [List.length_append, ints_append]; exact hown, own_other (h.own2.alloc _) hg (fun j k hj hk => fun e => h.apart k j hk hj e.symm), ?_, ?_, step_grown hs1 hg hlt, h.small⟩
  · intro j k hj hk
    rcases hv with hv | hv
    · exact h.apart j k (hv ▸ hj) hk
    · have h2 := (h.own2.lt k hk).2
      rw [hv] at hj
      injection hj with hj
      omega
  · have hr := h.reader.below ((Below.refl wr.heap.size wr).alloc (Nat.le_refl _) (.cells cs t))
    have hbl : Below w.heap.size (wr.alloc (.cells cs t)) w' :=
      ⟨hg.os, hg.tape, hg.output, hg.size, fun j hj => hg.block j (Nat.lt_of_lt_of_le hj hs1.size) (fun e => by have := hlt j e.symm; omega)⟩
    exact hr.under hb hbl hq

theorem MxG.put2 {w : World} {b : Nat} {q : Option Addr} {n c : Nat} {v1 v2 v' : Value} {l1 : List Int} {l2 : List Nat} {y : Nat} {cs : Array Value} {t : TypeId} {wr w' : World} (h : MxG w b q n c v1 v2 l1 l2 wr) (hb : b < w.heap.size) (hq : ∀ ad, q = some ad → ad.block < w.heap.size ∨ n = 0) (hy : y < 18446744073709551616)
    (hown : w'.ownsRow w.heap.size 24 1 v' (l2.length + 1) (fls l2 ++ fls [y])) (hg : (wr.alloc (.cells cs t)).grownBy w' v2.ownBlock) (hv : v'.ownBlock = v2.ownBlock ∨ v'.ownBlock = some (wr.heap.size + 1)) : MxG w b q n c v1 v' l1 (l2 ++ [y]) w' := by
  have hlt := fun j hj => (h.own2.lt j hj).1
  have hs1 : Step b w (wr.alloc (.cells cs t)) := h.step.alloc _
  refine ⟨own_other (h.own1.alloc _) hg (fun j k hj hk => h.apart j k hj hk), by rw [List.length_append, fls_append]; exact hown, ?_, ?_, step_grown hs1 hg hlt, ?_⟩
  · intro j k hj hk
    rcases hv with hv | hv
    · exact h.apart j k hj (hv ▸ hk)
    · have h2 := (h.own1.lt j hj).2
      rw [hv] at hk
      injection hk with hk
      omega
  · have hr := h.reader.below ((Below.refl wr.heap.size wr).alloc (Nat.le_refl _) (.cells cs t))
    have hbl : Below w.heap.size (wr.alloc (.cells cs t)) w' :=
      ⟨hg.os, hg.tape, hg.output, hg.size, fun j hj => hg.block j (Nat.lt_of_lt_of_le hj hs1.size) (fun e => by have := hlt j e.symm; omega)⟩
    exact hr.under hb hbl hq
  · intro x hx
    rcases List.mem_append.1 hx with h1 | h1
    · exact h.small x h1
    · rw [List.mem_singleton.1 h1]; exact hy

theorem MxG.start {w : World} {b : Nat} {q : Option Addr} {n c : Nat} (hr : Rd w b q n c) : MxG w b q n c (.slice (some ⟨w.heap.size, 0, Option.none⟩) 0 0) (.slice (some ⟨w.heap.size + 1, 0, Option.none⟩) 0 0) [] [] ((w.alloc (.cells #[] 2)).alloc (.cells #[] 24)) := by
  have h1 : (w.alloc (.cells #[] 2)).ownsRow w.heap.size 2 1 (.slice (some ⟨w.heap.size, 0, none⟩) 0 0) 0 [] := World.ownsRow_made w #[] 0 (Nat.le_refl _) (Nat.zero_le _) rfl
  have h2 : ((w.alloc (.cells #[] 2)).alloc (.cells #[] 24)).ownsRow (w.alloc (.cells #[] 2)).heap.size 24 1 (.slice (some ⟨(w.alloc (.cells #[] 2)).heap.size, 0, none⟩) 0 0) 0 [] := World.ownsRow_made _ #[] 0 (Nat.le_refl _) (Nat.zero_le _) rfl
  have hz : (w.alloc (.cells #[] 2)).heap.size = w.heap.size + 1 := by simp
  rw [hz] at h2
  refine ⟨h1.alloc _, own_baseF h2 (by omega), ?_, (hr.below ((Below.refl _ _).alloc (Nat.le_refl _) _)).below ((Below.refl _ _).alloc (Nat.le_refl _) _), ((Step.refl b w).alloc _).alloc _, fun x hx => by cases hx⟩
  intro j k hj hk
  have hj : some w.heap.size = some j := hj
  have hk : some (w.heap.size + 1) = some k := hk
  injection hj with hj
  injection hk with hk
  omega

theorem row_ilit (w : World) (x : Int) (t : TypeId) : RowIn (w.alloc (.cells #[.int .i64 x] t)) (.slice (some ⟨w.heap.size, 0, none⟩) 1 1) [x] := by
  refine ⟨some ⟨w.heap.size, 0, none⟩, 1, rfl, Nat.le_refl _, fun _ => ⟨w.heap.size, 0, rfl, by simp, fun j hj => ?_⟩⟩
  obtain rfl : j = 0 := by simp at hj; omega
  exact (cell_of_row _ _ 0 _ _ _ (heap_alloc_new _ _)).trans rfl

theorem d_size69 (w : World) (b : Nat) (q : Option Addr) (n c : Nat) (h : Rd w b q n c) :
    Calls Try.prog 47 #[.pointer (some ⟨b, 0, none⟩), .int .i64 6, .int .i64 9] w fun e w' => ∃ x : Int, e = .returned (.int .i64 x) ∧ 1 ≤ x ∧ x ≤ 9 ∧ Rd w' b q n c ∧ Step b w w' := by
  have HR := hid h
  have hdata := h.data
  have hfew := h.few
  clear h
  by_cases hc : (n : Int) / 6 + 1 > 9
  · have e1 : 1 + (n : Int) / 6 > 9 := by omega
    clear hc
    go_enter Try.func47, Try.ntmps47
    go_wp2_with (go_at_call 48; refine (d_below _ (by omega) _ _ _ _ _ HR.out).mono ?_; rintro e w1 ⟨x, rfl, ⟨hx0, hx1⟩, hr1, hs1⟩; refine Hid.out ?_)
    refine hid ?_
    have HR1 := hid hr1
    have HS1 := hid hs1
    have hx2 := hx1 (by omega)
    clear hr1 hs1
    go_wp2
    go_ret
    exact ⟨1 + x, rfl, by omega, by omega, HR1.out, HS1.out⟩
  · have e1 : ¬ 1 + (n : Int) / 6 > 9 := by omega
    have e2 : 0 ≤ (n : Int) / 6 := by omega
    clear hc
    go_enter Try.func47, Try.ntmps47
    go_wp2_with (go_at_call 48; refine (d_below _ (by omega) _ _ _ _ _ HR.out).mono ?_; rintro e w1 ⟨x, rfl, ⟨hx0, hx1⟩, hr1, hs1⟩; refine Hid.out ?_)
    refine hid ?_
    have HR1 := hid hr1
    have HS1 := hid hs1
    have hx2 := hx1 (by omega)
    clear hr1 hs1
    go_wp2
    go_ret
    exact ⟨1 + x, rfl, by omega, by omega, HR1.out, HS1.out⟩

set_option maxRecDepth 20000 in
set_option maxHeartbeats 8000000 in
theorem drawn_fit (w : World) (q : Option Addr) (n c : Nat) (hn : n ≤ 1048576) (hq : TBytes w q n) :
    Calls Try.prog 25 #[.slice q n c] w fun e w' => ∃ (v1 v2 : Value) (l1 : List Int) (l2 : List Nat), e = .returned (.tuple #[v1, v2]) ∧ l1.length ≤ 101 ∧ l2.length ≤ 101 ∧ RowIn w' v1 l1 ∧ RowFl w' v2 l2 ∧ (∀ x ∈ l2, x < 18446744073709551616) ∧ Below w.heap.size w w' := by
  have HQ := hid hq
  clear hq
  go_enter Try.func25, Try.ntmps25
  go_wp2_with (go_at_call 46; refine (d_open _ q n c hn HQ.out).mono ?_; rintro e w1 ⟨rfl, hr1, hb1⟩; refine Hid.out ?_)
  refine hid ?_
  have HB1 := hid hb1
  have HR1 := hid hr1
  clear hr1 hb1
  go_wp2_with (go_at_call 53; refine (d_drift _ _ _ _ _ HR1.out).mono ?_; unfold DrawnD; rintro e w2 ⟨x, y, rfl, hx, hy, hr2, hs2⟩; refine Hid.out ?_)
  refine hid ?_
  obtain ⟨w3, hw3⟩ : ∃ W, W = w2.alloc (.cells #[.float .f64 x, .float .f64 y] 34) := ⟨_, rfl⟩
  have HW3 := hid hw3
  have HR3 : Hid (Rd w3 w.heap.size q n c) := hid (by rw [hw3]; exact hr2.below ((Below.refl _ _).alloc (Nat.le_refl _) _))
  have HV3 : Hid (w3.heap[w2.heap.size]? = some (.cells #[.float .f64 x, .float .f64 y] 34)) := hid (by rw [hw3]; exact heap_alloc_new _ _)
  have HS3 : Hid (Below w.heap.size w w3) := hid (by rw [hw3]; exact (step_tail HB1.out hs2 (Nat.le_refl _)).alloc (step_tail HB1.out hs2 (Nat.le_refl _)).size _)
  have hbw : w.heap.size < w3.heap.size := HR3.out.here
  have hbc : w2.heap.size < w3.heap.size := by rw [hw3]; simp
  have hne : w2.heap.size ≠ w.heap.size := by have := hr2.here; omega
  have HOLD := hid HR3.out.old
  have HG3 := hid (MxG.start HR3.out)
  have HZ3 : Hid (w3.heap.size = w2.heap.size + 1) := hid (by rw [hw3]; simp)
  clear hr2 hs2 hw3 HR1
  go_wp2_with (go_at_call 47; rw [← HW3.out]; refine (d_size69 _ _ _ _ _ HG3.out.reader).mono ?_; rintro e w4 ⟨m, rfl, hm0, hm1, hr4, hs4⟩; refine Hid.out ?_)
  refine hid ?_
  have HG4 := hid (HG3.out.call hbw hr4 hs4)
  clear hr4 hs4 HG3
  obtain ⟨m0, rfl⟩ := Int.eq_ofNat_of_zero_le (show 0 ≤ m by omega)
  go_wp2
  go_loopw [6, 7, 8] (fun av bv nv wr => ∃ k : Nat, ∃ l1 l2, k ≤ 9 ∧ nv = .int .i64 k ∧ l1.length + k ≤ 9 ∧ 1 ≤ l1.length + k ∧ l2.length ≤ l1.length ∧ Hid (MxG w3 w.heap.size q n c av bv l1 l2 wr)) (fun _ _ nv _ => (RowKit.intOf nv).toNat)
  case atStart => exact ⟨m0, [], [], by omega, rfl, by simp; omega, by simp; omega, by simp, hid (by have h := HG4.out; rw [HZ3.out] at h; exact h)⟩
  case round =>
    clear HG4 hm0 hm1
    obtain ⟨k, l1, l2, hk, rfl, hlen, hlen1, hl2, HG⟩ := hrel
    by_cases hlt : 0 < k
    · obtain ⟨k2, rfl⟩ : ∃ k2, k = k2 + 1 := ⟨k - 1, by omega⟩
      go_wp2_with (go_at_call 54; refine (nearF 0 90 (by omega) (by omega) (by omega) _ _ _ _ _ HG.out.reader (by omega) (by omega)).mono ?_; rintro e w11 ⟨z, rfl, hz0, hz1, hr11, hs11⟩; refine Hid.out ?_)
      refine hid ?_
      have HG11 := hid (HG.out.call hbw hr11 hs11)
      clear hr11 hs11
      go_wp2_with (at_builtin; refine wp_append_ints rfl _ _ rfl w3.heap.size _ _ _ rfl (HG11.out.own1.alloc _) _ [z] rfl (row_ilit _ _ _) ?c2 ?c3 (fun c h => by cases h) ?_)
      case c2 => simp; omega
      case c3 => have := HG11.out.step.size; simp; omega
      intro v12 w12 hown12 hgrow12 hv12
      have HG12 := hid (HG11.out.put1 hbw HOLD.out hown12 hgrow12 hv12)
      clear hown12 hgrow12 hv12
      obtain ⟨d0, d1, _, _⟩ := two_cells ((HG12.out.step.block w2.heap.size hbc hne).trans HV3.out)
      go_wp2_with (go_at_call 55; refine (shown_spec x y z _).mono ?_; unfold FPost; rintro e w13 ⟨s, rfl, _, hb13⟩; refine Hid.out ?_)
      refine hid ?_
      have HG13 := hid (HG12.out.on hbw hb13)
      clear hb13 d0 d1
      go_wp2_with (go_at_call 54; refine (nearF (-3) 3 (by omega) (by omega) (by omega) _ _ _ _ _ HG13.out.reader (by omega) (by omega)).mono ?_; rintro e w14 ⟨u, rfl, hu0, hu1, hr14, hs14⟩; refine Hid.out ?_)
      refine hid ?_
      have HG14 := hid (HG13.out.call hbw hr14 hs14)
      have HG15 := hid ((HG14.out.on hbw (fw_below .quo (floatOfInt .f64 u) 4636737291354636288 _ _)).on hbw (fw_below .add s (fb .quo (floatOfInt .f64 u) 4636737291354636288 w14) _ _))
      have HZ15 := fb_lt .add s (fb .quo (floatOfInt .f64 u) 4636737291354636288 w14) (fw .quo (floatOfInt .f64 u) 4636737291354636288 w14)
      clear hr14 hs14 hu0 hu1
      go_wp2_with (go_at_call 50; refine (d_once 10 (by omega) (by omega) _ _ _ _ _ HG15.out.reader).mono ?_; rintro e w16 ⟨t, rfl, hr16, hs16⟩; refine Hid.out ?_)
      refine hid ?_
      have HG16 := hid (HG15.out.call hbw hr16 hs16)
      generalize fb .add s (fb .quo (floatOfInt .f64 u) 4636737291354636288 w14) (fw .quo (floatOfInt .f64 u) 4636737291354636288 w14) = zz at *
      clear hr16 hs16
      cases t with
      | false =>
        go_wp2_with (at_builtin; refine wp_append_fls rfl _ _ rfl w3.heap.size _ _ _ rfl (HG16.out.own2.alloc _) _ [zz] rfl (row_flit _ _ _) ?c2 ?c3 (fun c h => by cases h) ?_)
        case c2 => simp; omega
        case c3 => have := HG16.out.step.size; simp; omega
        intro v20 w20 hown20 hgrow20 hv20
        have HG20 := hid (HG16.out.put2 hbw HOLD.out HZ15 hown20 hgrow20 hv20)
        clear hown20 hgrow20 hv20
        go_wp2
        go_roundw
        case rel => exact ⟨k2, _, _, by omega, by go_num, by rw [List.length_append]; simp; omega, by rw [List.length_append]; simp; omega, by rw [List.length_append, List.length_append]; simp; omega, hid HG20.out⟩
        case measure => simp [RowKit.intOf]
      | true =>
        go_wp2_with (go_at_call 49; refine (d_float _ _ _ _ _ HG16.out.reader).mono ?_; unfold DrawnF; rintro e w17 ⟨s2, rfl, hs2, hr17, hs17⟩; refine Hid.out ?_)
        refine hid ?_
        have HG17 := hid (HG16.out.call hbw hr17 hs17)
        clear hr17 hs17
        go_wp2_with (at_builtin; refine wp_append_fls rfl _ _ rfl w3.heap.size _ _ _ rfl (HG17.out.own2.alloc _) _ [s2] rfl (row_flit _ _ _) ?c2 ?c3 (fun c h => by cases h) ?_)
        case c2 => simp; omega
        case c3 => have := HG17.out.step.size; simp; omega
        intro v20 w20 hown20 hgrow20 hv20
        have HG20 := hid (HG17.out.put2 hbw HOLD.out hs2 hown20 hgrow20 hv20)
        clear hown20 hgrow20 hv20
        go_wp2
        go_roundw
        case rel => exact ⟨k2, _, _, by omega, by go_num, by rw [List.length_append]; simp; omega, by rw [List.length_append]; simp; omega, by rw [List.length_append, List.length_append]; simp; omega, hid HG20.out⟩
        case measure => simp [RowKit.intOf]
    · have hk0 : k = 0 := by omega
      subst hk0
      go_wp2_with (go_at_call 48; refine (d_below 24 (by omega) _ _ _ _ _ HG.out.reader).mono ?_; rintro e w5 ⟨u, rfl, ⟨hu0, hu1⟩, hr5, hs5⟩; refine Hid.out ?_)
      refine hid ?_
      have HG5 := hid (HG.out.call hbw hr5 hs5)
      have HB5 := hid (step_tail HS3.out HG5.out.step (Nat.le_refl _))
      clear hr5 hs5
      by_cases h0 : u = 0
      · subst h0
        have hlp : 0 < l1.length := by omega
        obtain ⟨g, cap, hv, hgb, hgl⟩ := own_form HG5.out.own1 hlp
        subst hv
        have hpos : (0 : Int) < (l1.length : Int) := by omega
        go_wp2_with (go_at_call 56; refine (d_off _ _ (by omega) (by omega) (by omega) (by omega) _ _ _ _ _ HG5.out.reader).mono ?_; rintro e w6 ⟨t, rfl, ⟨ht0, ht1⟩, hr6, hs6⟩; refine Hid.out ?_)
        refine hid ?_
        have HG6 := hid (HG5.out.call hbw hr6 hs6)
        have HB6 := hid (step_tail HS3.out HG6.out.step (Nat.le_refl _))
        have k0 := HG6.out.own1.cellAt 0 (by omega)
        have f0 := HG6.out.own1.frozenAt 0
        have HST := hid (HG6.out.own1.stored 0 (.int .i64 t)).1
        rw [ints_set] at HST
        have HO2 := hid (ownsRow_setCell_other HG6.out.own2 (a := ⟨g, 0, none⟩) (fun e => HG6.out.apart g g rfl e rfl) (.int .i64 t))
        have HSM := hid HG6.out.small
        rw [show (ints l1)[0]? = some (.int .i64 l1[0]) by simp [ints, hlp]] at k0
        generalize l1[0] = l0 at k0
        clear hr6 hs6
        go_wp2
        exact bodyPost_ret (v := .tuple #[.slice (some ⟨g, 0, none⟩) l1.length cap, u7]) (by simp [results, Try.results25, go_sem]) rfl ⟨_, _, l1.set 0 t, l2, rfl, by rw [List.length_set]; omega, by omega, row_in_own2 (by rw [List.length_set]) HST.out, row_fl_own HO2.out, HSM.out, HB6.out.setCell (p := ⟨g, 0, none⟩) (Nat.le_trans (Nat.le_of_lt hbw) hgb) _⟩
      · have hb0 : (u == 0) = false := by rw [beq_eq_false_iff_ne]; exact h0
        by_cases h1 : u = 1
        · subst h1
          go_wp2_with (at_builtin; refine wp_append_fls rfl _ _ rfl w3.heap.size _ _ _ rfl (HG5.out.own2.alloc _) _ [4607182418800017408] rfl (row_flit _ _ _) ?c2 ?c3 (fun c h => by cases h) ?_)
          case c2 => simp; omega
          case c3 => have := HG5.out.step.size; simp; omega
          intro v20 w20 hown20 hgrow20 hv20
          have HG20 := hid (HG5.out.put2 hbw HOLD.out (by decide) hown20 hgrow20 hv20)
          have HB20 := hid (step_tail HS3.out HG20.out.step (Nat.le_refl _))
          have HA := hid (row_in_own HG20.out.own1)
          have HF := hid (row_fl_own HG20.out.own2)
          clear hown20 hgrow20 hv20
          go_wp2
          exact bodyPost_ret (v := .tuple #[u6, v20]) (by simp [results, Try.results25, go_sem]) rfl ⟨_, _, l1, _, rfl, by omega, by rw [List.length_append]; simp; omega, HA.out, HF.out, HG20.out.small, HB20.out⟩
        · have hb1 : (u == 1) = false := by rw [beq_eq_false_iff_ne]; exact h1
          by_cases h2 : u = 2
          · subst h2
            go_wp2_with (go_at_call 48; refine (d_below 2 (by omega) _ _ _ _ _ HG5.out.reader).mono ?_; rintro e w6 ⟨t, rfl, ⟨ht0, ht1⟩, hr6, hs6⟩; refine Hid.out ?_)
            refine hid ?_
            have HG6 := hid (HG5.out.call hbw hr6 hs6)
            have HB6 := hid (step_tail HS3.out HG6.out.step (Nat.le_refl _))
            obtain ⟨t, rfl⟩ := Int.eq_ofNat_of_zero_le ht0
            have ht2 : t = 0 ∨ t = 1 := by have := ht1 (by omega); omega
            clear hr6 hs6 ht1
            rcases ht2 with rfl | rfl
            · obtain ⟨i0, hi0, hz0, hz1, hz2⟩ := info_parts intInfo
              obtain ⟨wm, hrun, hown, hgr⟩ := run_make_full (P := Try.prog) w6 w6.heap.size 31 2 i0 _ 1 Try.underlying31 hi0 hz0 hz1 .i64 .i64 100 (by rw [hz2]; omega) (by unfold maxLen; omega) (Nat.le_refl _)
              rw [show ((100 : Nat) : Int) = 100 from rfl] at hrun
              have hcells : (madeCells (Value.int .i64 0).cells (100 * 1)).toList = ints (List.replicate 100 0) := by rw [Nat.mul_one]; show (madeCells #[Value.int .i64 0] 100).toList = _; rw [toList_madeCells_one]; simp [ints]
              rw [hcells] at hown
              have hbm : Below w6.heap.size w6 wm := ⟨hgr.os, hgr.tape, hgr.output, hgr.size, fun k hk => hgr.block k hk (by simp)⟩
              have hlt1 := (hown.lt w6.heap.size rfl).2
              obtain ⟨i1, hj0, hy0, hy1, hy2⟩ := info_parts flInfo
              obtain ⟨wn, hrun2, hown2, hgr2⟩ := run_make_full (P := Try.prog) wm wm.heap.size 32 24 i1 _ 1 Try.underlying32 hj0 hy0 hy1 .i64 .i64 100 (by rw [hy2]; omega) (by unfold maxLen; omega) (Nat.le_refl _)
              rw [show ((100 : Nat) : Int) = 100 from rfl] at hrun2
              have hcells2 : (madeCells (Value.float .f64 0).cells (100 * 1)).toList = fls (List.replicate 100 0) := by rw [Nat.mul_one]; show (madeCells #[Value.float .f64 0] 100).toList = _; rw [toList_madeCells_one]; simp [fls]
              rw [hcells2] at hown2
              have hbn : Below wm.heap.size wm wn := ⟨hgr2.os, hgr2.tape, hgr2.output, hgr2.size, fun k hk => hgr2.block k hk (by simp)⟩
              have hno : w6.heap.size ≠ wm.heap.size := by omega
              have HO1 := hid (own_below hown hbn)
              have HO2 := hid hown2
              have HBN := hid ((HB6.out.trans (hbm.mono HB6.out.size)).trans (hbn.mono (HB6.out.trans (hbm.mono HB6.out.size)).size))
              have k0 : wn.cell? ⟨w6.heap.size, 0, none⟩ = some (.int .i64 0) := (HO1.out.cellAt 0 (by omega)).trans rfl
              have f0 := HO1.out.frozenAt 0
              have HST := hid (HO1.out.stored 0 (.int .i64 5)).1
              rw [ints_set] at HST
              have HO3 := hid (ownsRow_setCell_other HO2.out (a := ⟨w6.heap.size, 0, none⟩) (fun e => hno (Option.some.inj e).symm) (.int .i64 5))
              have hzw6 : w.heap.size ≤ w6.heap.size := HB6.out.size
              have hzwm : w.heap.size ≤ wm.heap.size := Nat.le_trans hzw6 hbm.size
              clear hown hgr hbm hcells hown2 hgr2 hbn hcells2 hi0 hz0 hz1 hz2 hj0 hy0 hy1 hy2
              go_upto_region 24 with (fail)
              obtain ⟨w7, hw7⟩ : ∃ W, W = wn.setCell ⟨w6.heap.size, 0, none⟩ (.int .i64 5) := ⟨_, rfl⟩
              rw [← hw7] at HST HO3 ⊢
              have HB7 : Hid (Below w.heap.size w w7) := hid (by rw [hw7]; exact HBN.out.setCell (p := ⟨w6.heap.size, 0, none⟩) hzw6 _)
              clear hw7 k0 f0
              have k0 : w7.cell? ⟨wm.heap.size, 0, none⟩ = some (.float .f64 0) := (HO3.out.cellAt 0 (by omega)).trans rfl
              have f0 := HO3.out.frozenAt 0
              have HST2 := hid (HO3.out.stored 0 (.float .f64 4617315517961601024)).1
              rw [fls_set] at HST2
              have HO4 := hid (ownsRow_setCell_other HST.out (a := ⟨wm.heap.size, 0, none⟩) (fun e => hno (Option.some.inj e)) (.float .f64 4617315517961601024))
              go_wp2
              exact bodyPost_ret (v := .tuple #[.slice (some ⟨w6.heap.size, 0, none⟩) 100 100, .slice (some ⟨wm.heap.size, 0, none⟩) 100 100]) (by simp [results, Try.results25, go_sem]) rfl ⟨_, _, _, _, rfl, by rw [List.length_set]; simp, by rw [List.length_set]; simp, row_in_own2 (by rw [List.length_set]; simp) HO4.out, row_fl_own2 (by rw [List.length_set]; simp) HST2.out, fun x hx => by
                rcases List.mem_or_eq_of_mem_set hx with h | h
                · rw [List.eq_of_mem_replicate h]; decide
                · rw [h]; decide, HB7.out.setCell (p := ⟨wm.heap.size, 0, none⟩) hzwm _⟩
            · obtain ⟨i0, hi0, hz0, hz1, hz2⟩ := info_parts intInfo
              obtain ⟨wm, hrun, hown, hgr⟩ := run_make_full (P := Try.prog) w6 w6.heap.size 31 2 i0 _ 1 Try.underlying31 hi0 hz0 hz1 .i64 .i64 101 (by rw [hz2]; omega) (by unfold maxLen; omega) (Nat.le_refl _)
              rw [show ((101 : Nat) : Int) = 101 from rfl] at hrun
              have hcells : (madeCells (Value.int .i64 0).cells (101 * 1)).toList = ints (List.replicate 101 0) := by rw [Nat.mul_one]; show (madeCells #[Value.int .i64 0] 101).toList = _; rw [toList_madeCells_one]; simp [ints]
              rw [hcells] at hown
              have hbm : Below w6.heap.size w6 wm := ⟨hgr.os, hgr.tape, hgr.output, hgr.size, fun k hk => hgr.block k hk (by simp)⟩
              have hlt1 := (hown.lt w6.heap.size rfl).2
              obtain ⟨i1, hj0, hy0, hy1, hy2⟩ := info_parts flInfo
              obtain ⟨wn, hrun2, hown2, hgr2⟩ := run_make_full (P := Try.prog) wm wm.heap.size 32 24 i1 _ 1 Try.underlying32 hj0 hy0 hy1 .i64 .i64 101 (by rw [hy2]; omega) (by unfold maxLen; omega) (Nat.le_refl _)
              rw [show ((101 : Nat) : Int) = 101 from rfl] at hrun2
              have hcells2 : (madeCells (Value.float .f64 0).cells (101 * 1)).toList = fls (List.replicate 101 0) := by rw [Nat.mul_one]; show (madeCells #[Value.float .f64 0] 101).toList = _; rw [toList_madeCells_one]; simp [fls]
              rw [hcells2] at hown2
              have hbn : Below wm.heap.size wm wn := ⟨hgr2.os, hgr2.tape, hgr2.output, hgr2.size, fun k hk => hgr2.block k hk (by simp)⟩
              have hno : w6.heap.size ≠ wm.heap.size := by omega
              have HO1 := hid (own_below hown hbn)
              have HO2 := hid hown2
              have HBN := hid ((HB6.out.trans (hbm.mono HB6.out.size)).trans (hbn.mono (HB6.out.trans (hbm.mono HB6.out.size)).size))
              have k0 : wn.cell? ⟨w6.heap.size, 0, none⟩ = some (.int .i64 0) := (HO1.out.cellAt 0 (by omega)).trans rfl
              have f0 := HO1.out.frozenAt 0
              have HST := hid (HO1.out.stored 0 (.int .i64 5)).1
              rw [ints_set] at HST
              have HO3 := hid (ownsRow_setCell_other HO2.out (a := ⟨w6.heap.size, 0, none⟩) (fun e => hno (Option.some.inj e).symm) (.int .i64 5))
              have hzw6 : w.heap.size ≤ w6.heap.size := HB6.out.size
              have hzwm : w.heap.size ≤ wm.heap.size := Nat.le_trans hzw6 hbm.size
              clear hown hgr hbm hcells hown2 hgr2 hbn hcells2 hi0 hz0 hz1 hz2 hj0 hy0 hy1 hy2
              go_upto_region 24 with (fail)
              obtain ⟨w7, hw7⟩ : ∃ W, W = wn.setCell ⟨w6.heap.size, 0, none⟩ (.int .i64 5) := ⟨_, rfl⟩
              rw [← hw7] at HST HO3 ⊢
              have HB7 : Hid (Below w.heap.size w w7) := hid (by rw [hw7]; exact HBN.out.setCell (p := ⟨w6.heap.size, 0, none⟩) hzw6 _)
              clear hw7 k0 f0
              have k0 : w7.cell? ⟨wm.heap.size, 0, none⟩ = some (.float .f64 0) := (HO3.out.cellAt 0 (by omega)).trans rfl
              have f0 := HO3.out.frozenAt 0
              have HST2 := hid (HO3.out.stored 0 (.float .f64 4617315517961601024)).1
              rw [fls_set] at HST2
              have HO4 := hid (ownsRow_setCell_other HST.out (a := ⟨wm.heap.size, 0, none⟩) (fun e => hno (Option.some.inj e)) (.float .f64 4617315517961601024))
              go_wp2
              exact bodyPost_ret (v := .tuple #[.slice (some ⟨w6.heap.size, 0, none⟩) 101 101, .slice (some ⟨wm.heap.size, 0, none⟩) 101 101]) (by simp [results, Try.results25, go_sem]) rfl ⟨_, _, _, _, rfl, by rw [List.length_set]; simp, by rw [List.length_set]; simp, row_in_own2 (by rw [List.length_set]; simp) HO4.out, row_fl_own2 (by rw [List.length_set]; simp) HST2.out, fun x hx => by
                rcases List.mem_or_eq_of_mem_set hx with h | h
                · rw [List.eq_of_mem_replicate h]; decide
                · rw [h]; decide, HB7.out.setCell (p := ⟨wm.heap.size, 0, none⟩) hzwm _⟩
          · have hb2 : (u == 2) = false := by rw [beq_eq_false_iff_ne]; exact h2
            have HA := hid (row_in_own HG5.out.own1)
            have HF := hid (row_fl_own HG5.out.own2)
            go_wp2
            exact bodyPost_ret (v := .tuple #[u6, u7]) (by simp [results, Try.results25, go_sem]) rfl ⟨_, _, l1, l2, rfl, by omega, by omega, HA.out, HF.out, HG5.out.small, HB5.out⟩
end Go.Proofs.Ythpnlhbfginkjaa
