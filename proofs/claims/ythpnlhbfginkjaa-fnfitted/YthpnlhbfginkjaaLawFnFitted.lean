/- FnFitted, walked: it answers true. -/
import Derived.Test.YthpnlhbfginkjaaDrawFit
import Derived.Test.YthpnlhbfginkjaaLawFitClock
import Derived.Test.YthpnlhbfginkjaaFitSame
import Derived.Test.YthpnlhbfginkjaaLawFnDecayedSize
namespace Go.Proofs.Ythpnlhbfginkjaa
open Go.RowKit
open Go.Lib (hid)

attribute [local go_sem] run_fadd run_fsub run_fmul run_fquo run_fneg run_store_float fw_cell2 fw_thaw

/-- What is told of a clock is the very number, or a NaN. -/
theorem fit_lt64 {q : Option (Option Nat × Option Nat)} {l : List Int} {m : List Nat} (hq : q = fitQ l m) : ∀ o p, q = some (o, p) → (∀ x, o = some x → x < 18446744073709551616) ∧ (∀ x, p = some x → x < 18446744073709551616) := by
  intro o p h
  have key : ∀ a b x, fop .quo a b = some x → x < 18446744073709551616 := by
    intro a b x h
    cases a with
    | none => cases h
    | some A =>
      cases b with
      | none => cases h
      | some B =>
        have h : floatBits .quo .f64 A B = some x := h
        have := floatBits_wf h
        simp [Lit.wf] at this
        exact this
  rw [hq] at h
  unfold fitQ at h
  split at h
  · unfold fitO at h
    split at h
    · injection h with h
      injection h with h1 h2
      subst h1 h2
      exact ⟨fun x hx => key _ _ x hx, fun x hx => key _ _ x hx⟩
    · cases h
  · cases h

theorem fit_two' {l : List Int} {m : List Nat} {r s r' s' : Nat} {b b' : Bool} (h : FitIs (fitQ l m) r s b) (k : FitIs (fitQ l m) r' s' b') : ∃ o p, (FS o r ∧ FS o r') ∧ (FS p s ∧ FS p s') ∧ b = b' ∧ (∀ x, o = some x → x < 18446744073709551616) ∧ (∀ x, p = some x → x < 18446744073709551616) := by
  have hb := fit_lt64 (q := fitQ l m) rfl
  generalize fitQ l m = q at *
  cases q with
  | none =>
    obtain ⟨h1, h2, h3⟩ := h
    obtain ⟨k1, k2, k3⟩ := k
    exact ⟨some 0, some 0, ⟨h2, k2⟩, ⟨h3, k3⟩, h1.trans k1.symm, fun x hx => by rw [← Option.some.inj hx]; decide, fun x hx => by rw [← Option.some.inj hx]; decide⟩
  | some x =>
    obtain ⟨o, p⟩ := x
    obtain ⟨h1, h2, h3⟩ := h
    obtain ⟨k1, k2, k3⟩ := k
    exact ⟨o, p, ⟨h2, k2⟩, ⟨h3, k3⟩, h1.trans k1.symm, (hb o p rfl).1, (hb o p rfl).2⟩

theorem below_al {a w : World} (h : Below a.heap.size a w) (o : Obj) : Below a.heap.size a (w.alloc o) := h.alloc h.size o

/-- Where the law's own two lists stand. -/
structure LawMx (w : World) (v1 v2 : Value) (zs : List (Int × Nat)) (n m : Nat) (l1 : List Int) (l2 : List Nat) (wr : World) : Prop where
  own1 : wr.ownsRow w.heap.size 2 1 v1 n (ints l1)
  own2 : wr.ownsRow w.heap.size 24 1 v2 m (fls l2)
  apart : ∀ j k, v1.ownBlock = some j → v2.ownBlock = some k → j ≠ k
  below : Below w.heap.size w wr
  good : ∀ z ∈ zs, (0 ≤ z.1 ∧ z.1 ≤ 1000000) ∧ finB z.2 = true ∧ z.2 < 18446744073709551616

theorem LawMx.on {w : World} {v1 v2 : Value} {zs : List (Int × Nat)} {n m : Nat} {l1 : List Int} {l2 : List Nat} {wr w' : World} (h : LawMx w v1 v2 zs n m l1 l2 wr) (hb : Below wr.heap.size wr w') : LawMx w v1 v2 zs n m l1 l2 w' :=
  ⟨own_below h.own1 hb, own_below h.own2 hb, h.apart, h.below.trans (hb.mono h.below.size), h.good⟩

theorem LawMx.put1 {w : World} {v1 v2 v' : Value} {zs : List (Int × Nat)} {n m : Nat} {l1 : List Int} {l2 : List Nat} {y : Int} {wr w' : World} (h : LawMx w v1 v2 zs n m l1 l2 wr)
    (hown : w'.ownsRow w.heap.size 2 1 v' (n + 1) (ints l1 ++ ints [y])) (hg : wr.grownBy w' v1.ownBlock) (hv : v'.ownBlock = v1.ownBlock ∨ v'.ownBlock = some wr.heap.size) : LawMx w v' v2 zs (n + 1) m (l1 ++ [y]) l2 w' := by
  refine ⟨by rw [ints_append]; exact hown, own_other h.own2 hg (fun j k hj hk => fun e => h.apart k j hk hj e.symm), ?_, h.below.grown hg h.below.size (fun j hj => (h.own1.lt j hj).1), h.good⟩
  intro j k hj hk
  rcases hv with hv | hv
  · exact h.apart j k (hv ▸ hj) hk
  · have h2 := (h.own2.lt k hk).2
    rw [hv] at hj
    injection hj with hj
    omega

theorem LawMx.put2 {w : World} {v1 v2 v' : Value} {zs : List (Int × Nat)} {n m : Nat} {l1 : List Int} {l2 : List Nat} {t : Int} {y : Nat} {wr w' : World} (h : LawMx w v1 v2 zs n m l1 l2 wr) (hz : (0 ≤ t ∧ t ≤ 1000000) ∧ finB y = true ∧ y < 18446744073709551616)
    (hown : w'.ownsRow w.heap.size 24 1 v' (m + 1) (fls l2 ++ fls [y])) (hg : wr.grownBy w' v2.ownBlock) (hv : v'.ownBlock = v2.ownBlock ∨ v'.ownBlock = some wr.heap.size) : LawMx w v1 v' (zs ++ [(t, y)]) n (m + 1) l1 (l2 ++ [y]) w' := by
  refine ⟨own_other h.own1 hg (fun j k hj hk => h.apart j k hj hk), by rw [fls_append]; exact hown, ?_, h.below.grown hg h.below.size (fun j hj => (h.own2.lt j hj).1), fun z hzm => ?_⟩
  · intro j k hj hk
    rcases hv with hv | hv
    · exact h.apart j k hj (hv ▸ hk)
    · have h2 := (h.own1.lt j hj).2
      rw [hv] at hk
      injection hk with hk
      omega
  · rcases List.mem_append.1 hzm with h1 | h1
    · exact h.good z h1
    · rw [List.mem_singleton.1 h1]; exact hz

theorem LawMx.start (w : World) : LawMx w (.slice (some ⟨w.heap.size, 0, none⟩) 0 0) (.slice (some ⟨w.heap.size + 1, 0, none⟩) 0 0) [] 0 0 [] [] ((w.alloc (.cells #[] 2)).alloc (.cells #[] 24)) := by
  have h1 : (w.alloc (.cells #[] 2)).ownsRow w.heap.size 2 1 (.slice (some ⟨w.heap.size, 0, none⟩) 0 0) 0 [] := World.ownsRow_made w #[] 0 (Nat.le_refl _) (Nat.zero_le _) rfl
  have h2 : ((w.alloc (.cells #[] 2)).alloc (.cells #[] 24)).ownsRow (w.alloc (.cells #[] 2)).heap.size 24 1 (.slice (some ⟨(w.alloc (.cells #[] 2)).heap.size, 0, none⟩) 0 0) 0 [] := World.ownsRow_made _ #[] 0 (Nat.le_refl _) (Nat.zero_le _) rfl
  have hz : (w.alloc (.cells #[] 2)).heap.size = w.heap.size + 1 := by simp
  rw [hz] at h2
  refine ⟨h1.alloc _, own_baseF h2 (by omega), ?_, ((Below.refl _ _).alloc (Nat.le_refl _) _).alloc (by simp) _, fun z hz => by cases hz⟩
  intro j k hj hk
  have hj : some w.heap.size = some j := hj
  have hk : some (w.heap.size + 1) = some k := hk
  injection hj with hj
  injection hk with hk
  omega

theorem dy_nought {x u : Nat} (h : Dy x u 0) : rg x = 0 := by
  rcases Nat.eq_zero_or_pos (rg x) with hz | hz
  · exact hz
  · have h1 := vr_pos (Nat.pos_iff_ne_zero.1 hz)
    rw [dy_abs h, show (0 : Int).natAbs = 0 from rfl, Nat.zero_mul] at h1
    exact absurd h1 (Nat.lt_irrefl _)

theorem tiny {x : Nat} (h : Dy x 1070 0) (hx : x < 18446744073709551616) : (FloatKind.f64.format.order (sizF x) 4562254508917369340 == some .lt) = true := by
  have h0 : rg x = 0 := dy_nought h
  have hw := word_of x hx
  rw [h0] at hw
  cases hs : sgn x with
  | true => rw [hs] at hw; simp at hw; rw [hw]; decide +kernel
  | false => rw [hs] at hw; simp at hw; rw [hw]; decide +kernel

/-- A rate above nought is right. -/
theorem dr_right {r s : Nat} {b a : Int} (hr : Dy r 1070 b) (hs : Dy s 1070 a) (hb : 0 < b) : drB r s = true := by
  unfold drB
  rw [hr.1, hs.1, f64_format, order_key (fin_num hr.1) (by decide)]
  have hk : fkey 0 < fkey r := by
    rcases Int.lt_or_le (fkey 0) (fkey r) with h | h
    · exact h
    · have h1 := ival_le h
      rw [hr.2] at h1
      have h2 : (0 : Int) < b * 2 ^ 1070 := Int.mul_pos hb (Int.pow_pos (by decide))
      have h3 : ival 0 = 0 := by decide
      omega
  have : compare (fkey r) (fkey 0) = .gt := by
    rw [Int.compare_eq_gt]
    exact hk
  rw [this]
  rfl

/-- What the law's clock shows. -/
theorem shown_dy {r s : Nat} {b a t : Int} (hr : Dy r 1070 b) (hs : Dy s 1070 a) (hb0 : 0 < b) (hb1 : b ≤ 63) (ha0 : -256 ≤ a) (ha1 : a ≤ 256) (ht0 : 0 ≤ t) (ht1 : t ≤ 800) : ∃ y, shownO r s t = some y ∧ Dy y 1070 (a + b * t) ∧ y < 18446744073709551616 := by
  have hbt := bd (x := b) (y := t) (X := 63) (Y := 800) (by omega) (by omega) (by omega) (by omega)
  obtain ⟨p, p1, p2⟩ := dy_mul (u := 1070) (v := 1074) (w := 1070) rfl rung_1070 hr (dy_ofInt t (by unfold few; omega)) (by unfold few; omega)
  obtain ⟨y, y1, y2⟩ := dy_add rung_1070 hs p2 (by unfold few; omega)
  refine ⟨y, ?_, y2, ?_⟩
  · unfold shownO
    rw [if_pos ⟨dr_right hr hs hb0, ht0, by omega⟩]
    show fop .add (some s) (floatBits .mul .f64 r (floatOfInt .f64 t)) = _
    rw [p1]
    exact y1
  · have := floatBits_wf y1
    simp [Lit.wf] at this
    exact this

theorem rds_all {zs : List (Int × Nat)} (h : ∀ z ∈ zs, finB z.2 = true) : rds zs = zs.map fun z => (floatOfInt .f64 z.1, z.2) := by
  unfold rds
  rw [List.filter_eq_self.2 (fun z hz => h z hz)]

theorem okT_all {zs : List (Int × Nat)} (h : ∀ z ∈ zs, 0 ≤ z.1 ∧ z.1 ≤ 1000000) : okT zs = true := by
  unfold okT
  rw [List.all_eq_true]
  intro z hz
  unfold tkB
  exact decide_eq_true (h z hz)

/-- The law's own rate. -/
theorem sixteenth (e : Int) (h0 : 0 ≤ e) (h1 : e ≤ 47) : ∃ v r, floatBits .quo .f64 (floatOfInt .f64 e) 4625196817309499392 = some v ∧ floatBits .add .f64 4607182418800017408 v = some r ∧ Dy r 1070 (16 + e) := by
  have hx : Dy (floatOfInt .f64 e) 1070 (e * 16) := dy_shift (u := 1070) 4 (dy_ofInt e (by unfold few; omega))
  have hy : Dy 4625196817309499392 1074 16 := by
    have e : (4625196817309499392 : Nat) = floatOfInt .f64 16 := by decide +kernel
    rw [e]
    exact dy_ofInt 16 (by unfold few; omega)
  have hz : Dy 4607182418800017408 1070 16 := by
    have e : (4607182418800017408 : Nat) = floatOfInt .f64 1 := by decide +kernel
    rw [e]
    exact dy_shift (u := 1070) 4 (dy_ofInt 1 (by unfold few; omega))
  obtain ⟨v, v1, v2⟩ := dy_quo (u := 1070) (v := 1074) (w := 1070) rfl rung_1070 hx hy (by decide) (by unfold few; omega)
  obtain ⟨r, r1, r2⟩ := dy_add rung_1070 hz v2 (by unfold few; omega)
  exact ⟨v, r, v1, r1, r2⟩

set_option maxRecDepth 20000 in
set_option maxHeartbeats 8000000 in
theorem law_fnfitted (w : World) (q q2 : Option Addr) (n c n2 c2 : Nat) (hq : TBytes w q n) (hq2 : TBytes w q2 n2) :
    Calls Try.prog 6 #[.slice q n c, .slice q2 n2 c2] w fun e w' => e = .returned (.bool true) ∧ Below w.heap.size w w' := by
  have HQ := hid hq
  have HQ2 := hid hq2
  clear hq hq2
  have CB := hid (fun W => big_callsF q n c W)
  have CB2 := hid (fun W => big_callsF q2 n2 c2 W)
  by_cases hn : n ≤ 1048576
  · rw [decide_eq_false (show ¬ (n : Int) > 1048576 by omega)] at CB
    by_cases hn2 : n2 ≤ 1048576
    · rw [decide_eq_false (show ¬ (n2 : Int) > 1048576 by omega)] at CB2
      go_enter Try.func6, Try.ntmps6
      go_wp2_with (go_at_call_of 21 (Value.slice q n c); refine (CB.out _).mono ?_; rintro e wq ⟨rfl, eq⟩; rw [eq]; clear eq wq; refine Hid.out ?_)
      refine hid ?_
      go_wp2_with (go_at_call_of 21 (Value.slice q2 n2 c2); refine (CB2.out _).mono ?_; rintro e wq ⟨rfl, eq⟩; rw [eq]; clear eq wq; refine Hid.out ?_)
      refine hid ?_
      go_wp2_with (go_at_call 25; refine (drawn_fit _ q2 n2 c2 hn2 HQ2.out).mono ?_; rintro e w1 ⟨v1, v2, l1, l2, rfl, hd1, hd2, hr1, hr2, hsm, hb1⟩; refine Hid.out ?_)
      refine hid ?_
      have HB1 := hid hb1
      have HR1 := hid hr1
      have HR2 := hid hr2
      have HSM := hid hsm
      clear hb1 hr1 hr2 hsm CB CB2 HQ2
      go_wp2_with (go_at_call 14; refine (fit_spec_all l1 l2 _ _ _ HR1.out HR2.out).mono ?_; unfold FitPost; rintro e w2 ⟨r, s, b, rfl, hf, hb2⟩; refine Hid.out ?_)
      refine hid ?_
      have HF := hid hf
      have HB2 := hid (HB1.out.trans (hb2.mono HB1.out.size))
      obtain ⟨w3, hw3⟩ : ∃ W, W = w2.alloc (.cells #[.float .f64 r, .float .f64 s] 34) := ⟨_, rfl⟩
      have HW3 := hid hw3
      have HB3 : Hid (Below w.heap.size w w3) := hid (by rw [hw3]; exact HB2.out.alloc HB2.out.size _)
      have HV3 : Hid (DBox w3 w2.heap.size r s) := hid (by rw [hw3]; exact heap_alloc_new _ _)
      have HR1' : Hid (RowIn w3 v1 l1) := hid (by rw [hw3]; exact (HR1.out.on hb2).on ((Below.refl _ _).alloc (Nat.le_refl _) _))
      have HR2' : Hid (RowFl w3 v2 l2) := hid (by rw [hw3]; exact (HR2.out.on hb2).on ((Below.refl _ _).alloc (Nat.le_refl _) _))
      clear hf hb2 hw3 HR1 HR2
      go_wp2_with (go_at_call 17; rw [← HW3.out]; refine (fit_impl_all l1 l2 HSM.out _ _ _ HR1'.out HR2'.out).mono ?_; unfold FitPost; rintro e w4 ⟨r', s', b', rfl, hf, hb4⟩; refine Hid.out ?_)
      refine hid ?_
      obtain ⟨o, p, hoo, hpp, rfl, ho, hp⟩ := fit_two' hf HF.out
      have HB4 := hid (HB3.out.trans (hb4.mono HB3.out.size))
      have HV4 := hid (HV3.out.on hb4)
      have CS1 := hid (fun W => same_spec r' r (told_lt ho hoo.1) (told_lt ho hoo.2) W)
      have CS2 := hid (fun W => same_spec s' s (told_lt hp hpp.1) (told_lt hp hpp.2) W)
      rw [same_told hoo.1 hoo.2] at CS1
      rw [same_told hpp.1 hpp.2] at CS2
      obtain ⟨w5, hw5⟩ : ∃ W, W = w4.alloc (.cells #[.float .f64 r', .float .f64 s'] 34) := ⟨_, rfl⟩
      have HW5 := hid hw5
      have HB5 : Hid (Below w.heap.size w w5) := hid (by rw [hw5]; exact HB4.out.alloc HB4.out.size _)
      have HV5 : Hid (DBox w5 w2.heap.size r s) := hid (by rw [hw5]; exact HV4.out.alloc _)
      have HU5 : Hid (DBox w5 w4.heap.size r' s') := hid (by rw [hw5]; exact heap_alloc_new _ _)
      clear hf hb4 hw5 hoo hpp ho hp
      have hbb : (b' != b') = false := by simp
      obtain ⟨d0, d1, _, _⟩ := HV5.out.facts
      obtain ⟨d2, d3, _, _⟩ := HU5.out.facts
      go_upto_region 6 with (fail)
      rw [← HW5.out]
      go_wp2_with (go_at_call 23; refine (CS1.out _).mono ?_; rintro e wq ⟨rfl, eq⟩; rw [eq]; clear eq wq; refine Hid.out ?_)
      refine hid ?_
      go_wp2_with (go_at_call 23; refine (CS2.out _).mono ?_; rintro e wq ⟨rfl, eq⟩; rw [eq]; clear eq wq; refine Hid.out ?_)
      refine hid ?_
      clear d0 d1 d2 d3 CS1 CS2
      by_cases h8 : n < 8
      · have h8i : (n : Int) < 8 := by omega
        go_wp2
        go_ret
        exact ⟨rfl, HB5.out⟩
      · have h8i : ¬ (n : Int) < 8 := by omega
        obtain ⟨ad, rfl, hal, x0, hx00, hx01, hcx0⟩ := HQ.out 0 (by omega)
        obtain ⟨ad2, ead, _, x1, hx10, hx11, hcx1⟩ := HQ.out 1 (by omega)
        obtain rfl := Option.some.inj ead
        have j0 : ∀ W : World, Below w5.heap.size w5 W → W.cell? ad = some (.int .u8 x0) := fun W h => (((HB5.out.trans (h.mono HB5.out.size)).cell (p := ad.add 0) (by rw [add_block]; exact hal))).trans hcx0
        have j1 : ∀ W : World, Below w5.heap.size w5 W → W.cell? ⟨ad.block, ad.off + 1, none⟩ = some (.int .u8 x1) := fun W h => by
          have h2 := ((HB5.out.trans (h.mono HB5.out.size)).cell (p := ad.add 1) (by rw [add_block]; exact hal)).trans hcx1
          simpa [Addr.add] using h2
        have hm : x0.tmod 48 = x0 % 48 := Int.tmod_eq_emod_of_nonneg hx00
        have hwp : IntKind.i64.wrap (x1 - 128) = x1 - 128 := by rw [IntKind.wrap_i64]; omega
        have hwq : IntKind.i64.wrap x1 = x1 := by rw [IntKind.wrap_i64]; omega
        obtain ⟨vr1, rc, hv1, hv2, HDR⟩ := sixteenth (x0.tmod 48) (by omega) (by omega)
        have HM := hid hm
        clear hm
        obtain ⟨oc, hv3, HDO⟩ := eighth (x1 - 128) (by omega) (by omega)
        have e1 := fb_some hv1
        have e2 := fw_some hv1
        have e3 := fb_some hv2
        have e4 := fw_some hv2
        have e5 := fb_some hv3
        have e6 := fw_some hv3
        have b2 : (1 : Int) < (n : Int) := by omega
        have b3 : (0 : Int) < (n : Int) := by omega
        have b4 : 0 < n := by omega
        go_wp2
        go_region_held3 (fun w' => Below w5.heap.size w5 w') (first | with_reducible assumption | exact Below.drew (Below.refl _ _) | exact below_al (by with_reducible assumption) _ | exact ((Below.refl _ _).alloc (Nat.le_refl _) _).drew) (fail)
        obtain ⟨w6, hw6⟩ : ∃ W, W = (w5.alloc (.cells #[.float .f64 rc, .float .f64 oc] 34)).drew := ⟨_, rfl⟩
        have HW6 := hid hw6
        have HB6 : Hid (Below w.heap.size w w6) := hid (by rw [hw6]; exact (HB5.out.alloc HB5.out.size _).drew)
        have HV6 : Hid (DBox w6 w5.heap.size rc oc) := hid (by rw [hw6]; exact heap_alloc_new _ _)
        have hz6 : w5.heap.size < w6.heap.size := by rw [hw6]; show _ < (w5.alloc _).heap.size; simp
        have HL0 := hid (LawMx.start w6)
        rw [← hw6]
        clear hw6 j0 j1 e1 e2 e3 e4 e5 e6 hwp hwq
        have hrc : rc < 18446744073709551616 := by have := floatBits_wf hv2; simp [Lit.wf] at this; exact this
        have hoc : oc < 18446744073709551616 := by have := floatBits_wf hv3; simp [Lit.wf] at this; exact this
        have HA := hid HDR
        have HO := hid (dy_shift (u := 1070) 1 HDO)
        have ha0 : -256 ≤ (x1 - 128) * 2 ^ 1 := by omega
        have ha1 : (x1 - 128) * 2 ^ 1 ≤ 256 := by omega
        have hb0 : 0 < 16 + x0.tmod 48 := by rw [HM.out]; omega
        have hb1 : 16 + x0.tmod 48 ≤ 63 := by rw [HM.out]; omega
        clear hv1 hv2 hv3 HDR HDO
        generalize (x1 - 128) * 2 ^ 1 = A at *
        generalize 16 + x0.tmod 48 = B at *
        go_wp2
        go_loopw [12, 13, 14] (fun av bv iv wr => ∃ (i : Nat) (zs : List (Int × Nat)), 2 ≤ i ∧ i ≤ 8 ∧ iv = .int .i64 ((i : Nat) : Int) ∧ zs.length + 2 ≤ i ∧ i ≤ zs.length + 2 ∧ Hid (ExL A B (100 * (i : Int) - 1) (zs.map fun z => (floatOfInt .f64 z.1, z.2)) (zs.map Prod.fst)) ∧ Hid (LawMx w6 av bv zs zs.length zs.length (zs.map Prod.fst) (zs.map Prod.snd) wr)) (fun _ _ iv _ => 8 - (RowKit.intOf iv).toNat)
        case atStart => exact ⟨2, [], Nat.le_refl _, by omega, rfl, by simp, by simp, hid (ExL.start _ _ _), HL0⟩
        case round =>
          obtain ⟨i, zs, hi2, hi8, rfl, hl1, hl2, HE, HL⟩ := hrel
          have b0 : (0 : Int) ≤ (i : Int) := by omega
          by_cases hc1 : i < 8
          · have b1 : (i : Int) < 8 := by omega
            have b5 : (i : Int) < (n : Int) := by omega
            obtain ⟨ad2, ead, hal2, x, hxa, hxb, hcx2⟩ := HQ.out i (by omega)
            obtain rfl := Option.some.inj ead
            have kc : wr.cell? (ad.add i) = some (.int .u8 x) := ((HB6.out.trans (HL.out.below.mono HB6.out.size)).cell (by rw [add_block]; exact hal2)).trans hcx2
            have hmx : x.tmod 90 = x % 90 := Int.tmod_eq_emod_of_nonneg hxa
            clear hcx2 ead
            have ht0 : 100 * (i : Int) ≤ 100 * (i : Int) + x % 90 := by omega
            have ht1 : 100 * (i : Int) + x % 90 ≤ 100 * (i : Int) + 89 := by omega
            obtain ⟨yv, hyv, HY, hyl⟩ := shown_dy (t := 100 * (i : Int) + x % 90) HA.out HO.out hb0 hb1 ha0 ha1 (by omega) (by omega)
            have HYV := hid hyv
            have HYD := hid HY
            clear hyv HY
            go_wp2_with (at_builtin; refine wp_append_ints rfl _ _ rfl w6.heap.size _ _ _ rfl (HL.out.own1.alloc _) _ [100 * (i : Int) + x % 90] rfl (row_lit _ _ _) ?c2 ?c3 (fun c h => by cases h) ?_)
            case c2 => simp; omega
            case c3 => have := HL.out.below.size; simp; omega
            intro v12 w12 hown12 hg12 hv12
            have HL12 := hid ((HL.out.on ((Below.refl _ _).alloc (Nat.le_refl _) _)).put1 hown12 hg12 (by simpa using hv12))
            clear hown12 hg12 hv12 kc hmx
            obtain ⟨d0, d1, _, _⟩ := (HV6.out.on HL12.out.below).facts
            go_wp2_with (go_at_call 26; refine (shown_impl rc oc hrc hoc _ _).mono ?_; unfold FPost; rintro e w13 ⟨y, rfl, hy, hb13⟩; refine Hid.out ?_)
            refine hid ?_
            rw [HYV.out] at hy
            obtain rfl : y = yv := hy
            have HL13 := hid (HL12.out.on hb13)
            clear hb13 d0 d1
            go_wp2_with (at_builtin; refine wp_append_fls rfl _ _ rfl w6.heap.size _ _ _ rfl (HL13.out.own2.alloc _) _ [y] rfl (row_flit _ _ _) ?c2 ?c3 (fun c h => by cases h) ?_)
            case c2 => simp; omega
            case c3 => have := HL13.out.below.size; simp; omega
            intro v14 w14 hown14 hg14 hv14
            have HL14 := hid ((HL13.out.on ((Below.refl _ _).alloc (Nat.le_refl _) _)).put2 (t := 100 * (i : Int) + x % 90) ⟨⟨by omega, by omega⟩, HYD.out.1, hyl⟩ hown14 hg14 (by simpa using hv14))
            have HE14 := hid (HE.out.put (m' := 100 * ((i + 1 : Nat) : Int) - 1) ha0 ha1 (Int.le_of_lt hb0) hb1 (by rw [List.length_map]; omega) (by omega) (by omega) (by omega) (by omega) HYD.out)
            clear hown14 hg14 hv14
            go_wp2
            go_roundw
            case rel => exact ⟨i + 1, zs ++ [(100 * (i : Int) + x % 90, y)], by omega, by omega, by go_num, by rw [List.length_append]; simp; omega, by rw [List.length_append]; simp; omega, hid (by rw [List.map_append, List.map_append]; exact HE14.out), hid (by rw [List.length_append, List.map_append, List.map_append]; exact HL14.out)⟩
            case measure => simp [RowKit.intOf]; omega
          · have b1 : ¬ (i : Int) < 8 := by omega
            obtain ⟨ro, so, hro, hso, DR, DS⟩ := HE.out.fit ha0 ha1 (Int.le_of_lt hb0) hb1 (by rw [List.length_map]; omega)
            have hfo : fitO zs = some (some ro, some so) := by
              unfold fitO
              rw [rds_all (fun z hz => (HL.out.good z hz).2.1), hro, hso, if_pos ⟨okT_all (fun z hz => (HL.out.good z hz).1), by rw [List.length_map]; omega, dr_right DR DS hb0⟩]
            have HFO := hid hfo
            have HRI : Hid (RowIn wr u12 (zs.map Prod.fst)) := hid (row_in_own2 (by simp) HL.out.own1)
            have HRF : Hid (RowFl wr u13 (zs.map Prod.snd)) := hid (row_fl_own2 (by simp) HL.out.own2)
            obtain ⟨q1, hq1, DQ1⟩ := dy_sub rung_1070 DR HA.out (by unfold few; omega)
            obtain ⟨q3, hq3, DQ3⟩ := dy_sub rung_1070 DS HO.out (by unfold few; omega)
            rw [Int.sub_self] at DQ1 DQ3
            have hl1' : q1 < 18446744073709551616 := by have := floatBits_wf hq1; simp [Lit.wf] at this; exact this
            have hl3' : q3 < 18446744073709551616 := by have := floatBits_wf hq3; simp [Lit.wf] at this; exact this
            have t1 := tiny DQ1 hl1'
            have t3 := tiny DQ3 hl3'
            have e1 := fb_some hq1
            have e2 := fw_some hq1
            have e3 := fb_some hq3
            have e4 := fw_some hq3
            clear hfo hro hso DR DS hq1 hq3 DQ1 DQ3
            go_wp2_with (go_at_call 17; refine (fit_impl zs (by omega) (fun z hz => (HL.out.good z hz).2.2) _ _ _ HRI.out HRF.out).mono ?_; unfold FitPost; rintro e w20 ⟨R, S, bb, rfl, hf, hb20⟩; refine Hid.out ?_)
            refine hid ?_
            rw [HFO.out] at hf
            obtain ⟨rfl, hR, hS⟩ := hf
            obtain rfl : R = ro := hR
            obtain rfl : S = so := hS
            have HB20 := hid (HB6.out.trans ((HL.out.below.trans (hb20.mono HL.out.below.size)).mono HB6.out.size))
            have HV20 := hid (HV6.out.on (HL.out.below.trans (hb20.mono HL.out.below.size)))
            obtain ⟨w21, hw21⟩ : ∃ W, W = w20.alloc (.cells #[.float .f64 R, .float .f64 S] 34) := ⟨_, rfl⟩
            have HB21 : Hid (Below w.heap.size w w21) := hid (by rw [hw21]; exact HB20.out.alloc HB20.out.size _)
            have HV21 : Hid (DBox w21 w5.heap.size rc oc) := hid (by rw [hw21]; exact HV20.out.alloc _)
            have HU21 : Hid (DBox w21 w20.heap.size R S) := hid (by rw [hw21]; exact heap_alloc_new _ _)
            clear hb20
            go_upto_region 20 with (fail)
            rw [← hw21]
            clear hw21
            obtain ⟨d0, d1, _, _⟩ := HV21.out.facts
            obtain ⟨d2, d3, _, _⟩ := HU21.out.facts
            go_wp2_with (go_at_call 27; refine (size_told q1 _).mono ?_; rintro e wq ⟨rfl, eq⟩; rw [eq]; clear eq wq; refine Hid.out ?_)
            refine hid ?_
            go_wp2_with (go_at_call 27; refine (size_told q3 _).mono ?_; rintro e wq ⟨rfl, eq⟩; rw [eq]; clear eq wq; refine Hid.out ?_)
            refine hid ?_
            go_wp2
            go_ret
            exact ⟨rfl, HB21.out⟩
    · rw [decide_eq_true (show (n2 : Int) > 1048576 by omega)] at CB2
      go_enter Try.func6, Try.ntmps6
      go_wp2_with (go_at_call_of 21 (Value.slice q n c); refine (CB.out _).mono ?_; rintro e wq ⟨rfl, eq⟩; rw [eq]; clear eq wq; refine Hid.out ?_)
      refine hid ?_
      go_wp2_with (go_at_call_of 21 (Value.slice q2 n2 c2); refine (CB2.out _).mono ?_; rintro e wq ⟨rfl, eq⟩; rw [eq]; clear eq wq)
      go_ret
      exact ⟨rfl, Below.refl _ _⟩
  · rw [decide_eq_true (show (n : Int) > 1048576 by omega)] at CB
    go_enter Try.func6, Try.ntmps6
    go_wp2_with (go_at_call_of 21 (Value.slice q n c); refine (CB.out _).mono ?_; rintro e wq ⟨rfl, eq⟩; rw [eq]; clear eq wq)
    go_ret
    exact ⟨rfl, Below.refl _ _⟩
end Go.Proofs.Ythpnlhbfginkjaa
