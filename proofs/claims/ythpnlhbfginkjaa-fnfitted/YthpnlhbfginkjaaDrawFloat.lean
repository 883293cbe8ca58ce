/- A drawn float: some float64; the reader goes on. -/
import Derived.Test.YthpnlhbfginkjaaDraws
import Derived.Test.YthpnlhbfginkjaaFloatBoth
namespace Go.Proofs.Ythpnlhbfginkjaa
open Go.RowKit
open Go.Lib (hid)

theorem run_fneg {P : Program} (w : World) (b : Nat) : (Op.unary .neg (.float .f64 b)).run P w = .ok (.float .f64 (Op.negFloat .f64 b)) w := rfl

attribute [local go_sem] run_fadd run_fsub run_fmul run_fquo run_fneg

theorem fb_lt (op : BinOp) (x y : Nat) (w : World) : fb op x y w < 18446744073709551616 := by
  cases h : floatBits op .f64 x y with
  | none =>
    unfold fb
    rw [h]
    exact cut_lt _ _ _
  | some r =>
    rw [fb_some h]
    have := floatBits_wf h
    simp [Lit.wf] at this
    exact this

theorem neg_lt {x : Nat} (h : x < 18446744073709551616) : Op.negFloat .f64 x < 18446744073709551616 := by
  show x ^^^ 2 ^ (11 + 52) < 2 ^ 64
  exact Nat.xor_lt_two_pow h (by decide)

theorem ofInt_lt (n : Int) : floatOfInt .f64 n < 18446744073709551616 := by
  have := floatOfInt_wf .f64 n
  simp [Lit.wf] at this
  exact this

theorem step_belowF {b : Nat} {w w1 w2 : World} (h : Step b w w1) (hb : Below w1.heap.size w1 w2) : Step b w w2 :=
  h.trans ⟨hb.os, hb.tape, hb.output, hb.size, fun k hk _ => hb.block k hk⟩

theorem step_fw {b : Nat} {w w1 : World} (h : Step b w w1) (op : BinOp) (x y : Nat) : Step b w (fw op x y w1) := step_belowF h (fw_below op x y w1 _)

theorem rd_fw {w : World} {b : Nat} {q : Option Addr} {n c : Nat} (h : Rd w b q n c) (op : BinOp) (x y : Nat) : Rd (fw op x y w) b q n c := h.below (fw_below op x y w _)

/-- Some float64. -/
def SomeFl (w : World) (e : Ending) (w' : World) : Prop := ∃ r, e = .returned (.float .f64 r) ∧ r < 18446744073709551616 ∧ Below w.heap.size w w'

theorem none_lt (w : World) : Calls Try.prog 33 #[] w (SomeFl w) := by
  unfold SomeFl
  go_enter Try.func33, Try.ntmps33
  go_wp2
  go_ret
  exact ⟨_, rfl, fb_lt _ _ _ _, fw_below _ _ _ _ _⟩

theorem scaled_lt (m : Int) (q : Int) (hq : -1074 ≤ q) (hq2 : q ≤ 1074) (w : World) : Calls Try.prog 71 #[.int .u64 m, .int .i64 q] w (SomeFl w) := by
  unfold SomeFl
  go_enter Try.func71, Try.ntmps71
  go_wp2
  go_loopw [1, 5] (fun qv xv wr => ∃ z : Int, ∃ r : Nat, -1074 ≤ z ∧ z ≤ 1074 ∧ qv = .int .i64 z ∧ xv = .float .f64 r ∧ r < 18446744073709551616 ∧ Below w.heap.size w wr) (fun qv _ _ => (RowKit.intOf qv).toNat)
  case atStart => exact ⟨q, _, hq, hq2, rfl, rfl, ofInt_lt _, Below.refl _ _⟩
  case round =>
    obtain ⟨z, r, h1, h2, rfl, rfl, hr, hb⟩ := hrel
    have HB := hid hb
    have HR := hid hr
    clear hb hr
    by_cases hz : 0 < z
    · go_wp2
      go_roundw
      case rel => exact ⟨z - 1, _, by omega, by omega, by go_num, rfl, fb_lt _ _ _ _, HB.out.trans (fw_below _ _ _ _ _)⟩
      case measure => simp [RowKit.intOf]; omega
    · have hz2 : z ≤ 0 := by omega
      go_wp2
      go_loopw [1, 5] (fun qv xv wr => ∃ z : Int, ∃ r : Nat, -1074 ≤ z ∧ z ≤ 0 ∧ qv = .int .i64 z ∧ xv = .float .f64 r ∧ r < 18446744073709551616 ∧ Below w.heap.size w wr) (fun qv _ _ => (-(RowKit.intOf qv)).toNat)
      case atStart => exact ⟨z, r, h1, hz2, rfl, rfl, HR.out, HB.out⟩
      case round =>
        clear HR HB
        obtain ⟨y, s, g1, g2, rfl, rfl, hs, hb⟩ := hrel
        have HB := hid hb
        have HS := hid hs
        clear hb hs
        by_cases hy : y < 0
        · go_wp2
          go_roundw
          case rel => exact ⟨y + 1, _, by omega, by omega, by go_num, rfl, fb_lt _ _ _ _, HB.out.trans (fw_below _ _ _ _ _)⟩
          case measure => simp [RowKit.intOf]; omega
        · go_wp2
          go_ret
          exact ⟨_, rfl, HS.out, HB.out⟩

/-- A drawn float. -/
def DrawnF (b : Nat) (q : Option Addr) (n c : Nat) (w : World) (e : Ending) (w' : World) : Prop :=
  ∃ r, e = .returned (.float .f64 r) ∧ r < 18446744073709551616 ∧ Rd w' b q n c ∧ Step b w w'

theorem nearF (low high : Int) (hl : -2000 ≤ low) (hh : high ≤ 2000) (hlh : low ≤ high) (w : World) (b : Nat) (q : Option Addr) (n c : Nat) (h : Rd w b q n c) (hl2 : low ≤ 2000) (hh2 : -2000 ≤ high) :
    Calls Try.prog 54 #[.pointer (some ⟨b, 0, none⟩), .int .i64 low, .int .i64 high] w fun e w' => ∃ x : Int, e = .returned (.int .i64 x) ∧ low ≤ x ∧ x ≤ high ∧ Rd w' b q n c ∧ Step b w w' := by
  refine (d_near low high (by omega) (by omega) (by omega) (by omega) w b q n c h).mono ?_
  rintro e w2 ⟨y, rfl, hy, hr, hs⟩
  have := hy hlh
  exact ⟨y, rfl, by omega, by omega, hr, hs⟩
set_option maxRecDepth 20000 in
set_option maxHeartbeats 4000000 in
theorem d_float (w : World) (b : Nat) (q : Option Addr) (n c : Nat) (h : Rd w b q n c) :
    Calls Try.prog 49 #[.pointer (some ⟨b, 0, none⟩)] w (DrawnF b q n c w) := by
  unfold DrawnF
  have HR0 := hid h
  have HS0 : Hid (Step b w w) := hid (Step.refl _ _)
  clear h
  go_enter Try.func49, Try.ntmps49
  go_wp2_with (go_at_call 71; refine (scaled_lt _ _ (by omega) (by omega) _).mono ?_; unfold SomeFl; rintro e w1 ⟨x1, rfl, hx1, hb1⟩; refine Hid.out ?_)
  refine hid ?_
  have HR1 := hid (HR0.out.below hb1)
  have HS1 := hid (step_belowF HS0.out hb1)
  have HX1 := hid hx1
  clear hb1 hx1
  go_wp2_with (go_at_call 48; refine (d_below 12 (by omega) _ _ _ _ _ HR1.out).mono ?_; rintro e w2 ⟨k, rfl, ⟨hk0, hk1⟩, hr2, hs2⟩; refine Hid.out ?_)
  refine hid ?_
  have HR2 := hid hr2
  have HS2 := hid (HS1.out.trans hs2)
  have hk : k = 0 ∨ (k = 1 ∨ k = 2) ∨ k = 3 ∨ k = 4 ∨ k = 5 ∨ 6 ≤ k := by have := hk1 (by omega); omega
  clear hr2 hs2 hk0 hk1 HR1 HS1
  rcases hk with rfl | hk | rfl | rfl | rfl | hk
  · skip
    go_wp2_with (go_at_call 33; refine (none_lt _).mono ?_; unfold SomeFl; rintro e w3 ⟨y3, rfl, hy3, hb3⟩; refine Hid.out ?_)
    refine hid ?_
    have HR3 := hid (HR2.out.below hb3)
    have HS3 := hid (step_belowF HS2.out hb3)
    have HY3 := hid hy3
    clear hb3 hy3
    have m1 : floatBits .mul .f64 9214871658872686752 4621819117588971520 = some 9218868437227405312 := by decide
    have m2 : floatBits .mul .f64 (Op.negFloat .f64 9214871658872686752) 4621819117588971520 = some 18442240474082181120 := by decide
    have f1 := fb_some m1
    have f2 := fw_some m1
    have f3 := fb_some m2
    have f4 := fw_some m2
    clear m1 m2
    go_wp2_with (go_at_call 71; refine (scaled_lt _ _ (by omega) (by omega) _).mono ?_; unfold SomeFl; rintro e w4 ⟨y4, rfl, hy4, hb4⟩; refine Hid.out ?_)
    refine hid ?_
    have HR4 := hid (HR3.out.below hb4)
    have HS4 := hid (step_belowF HS3.out hb4)
    have HY4 := hid hy4
    clear hb4 hy4
    go_wp2_with (go_at_call 71; refine (scaled_lt _ _ (by omega) (by omega) _).mono ?_; unfold SomeFl; rintro e w5 ⟨y5, rfl, hy5, hb5⟩; refine Hid.out ?_)
    refine hid ?_
    have HR5 := hid (HR4.out.below hb5)
    have HS5 := hid (step_belowF HS4.out hb5)
    have HY5 := hid hy5
    clear hb5 hy5
    go_wp2_with (go_at_call 48; refine (d_below 12 (by omega) _ _ _ _ _ (by exact HR5.out.below ((Below.refl _ _).alloc (Nat.le_refl _) _))).mono ?_; rintro e w6 ⟨u, rfl, ⟨hu0, hu1⟩, hr6, hs6⟩; refine Hid.out ?_)
    refine hid ?_
    have hp := pick_cells hs6 HR5.out.here
    have HR6 := hid hr6
    have HS6 := hid ((HS5.out.alloc _).trans hs6)
    have hu2 : u = 0 ∨ u = 1 ∨ u = 2 ∨ u = 3 ∨ u = 4 ∨ u = 5 ∨ u = 6 ∨ u = 7 ∨ u = 8 ∨ u = 9 ∨ u = 10 ∨ u = 11 := by have := hu1 (by omega); omega
    clear hr6 hs6
    have p0 := hp 0 _ rfl
    have p1 := hp 1 _ rfl
    have p2 := hp 2 _ rfl
    have p3 := hp 3 _ rfl
    have p4 := hp 4 _ rfl
    have p5 := hp 5 _ rfl
    have p6 := hp 6 _ rfl
    have p7 := hp 7 _ rfl
    have p8 := hp 8 _ rfl
    have p9 := hp 9 _ rfl
    have p10 := hp 10 _ rfl
    have p11 := hp 11 _ rfl
    clear hp hu0 hu1 f1 f2 f3 f4
    rcases hu2 with rfl | rfl | rfl | rfl | rfl | rfl | rfl | rfl | rfl | rfl | rfl | rfl
    all_goals
      go_wp2
      go_ret
      exact ⟨_, rfl, by first | exact HX1.out | exact HY3.out | exact HY4.out | exact HY5.out | exact neg_lt HX1.out | decide, HR6.out, HS6.out⟩
  · rcases hk with rfl | rfl
    all_goals
      go_wp2_with (go_at_call 54; refine (nearF (-1000) 1000 (by omega) (by omega) (by omega) _ _ _ _ _ HR2.out (by omega) (by omega)).mono ?_; rintro e w3 ⟨z3, rfl, hz0, hz1, hr3, hs3⟩; refine Hid.out ?_)
      refine hid ?_
      have HR3 := hid hr3
      have HS3 := hid (HS2.out.trans hs3)
      clear hr3 hs3
      go_wp2
      go_ret
      exact ⟨_, rfl, fb_lt _ _ _ _, rd_fw HR3.out _ _ _, step_fw HS3.out _ _ _⟩
  · skip
    go_wp2_with (go_at_call 72; refine (d_word _ _ _ _ _ HR2.out).mono ?_; rintro e w3 ⟨v3, rfl, ⟨hv0, hv1⟩, hr3, hs3⟩; refine Hid.out ?_)
    refine hid ?_
    have HR3 := hid hr3
    have HS3 := hid (HS2.out.trans hs3)
    clear hr3 hs3
    go_wp2_with (go_at_call 54; refine (nearF (-1074) 971 (by omega) (by omega) (by omega) _ _ _ _ _ HR3.out (by omega) (by omega)).mono ?_; rintro e w4 ⟨z4, rfl, hz0, hz1, hr4, hs4⟩; refine Hid.out ?_)
    refine hid ?_
    have HR4 := hid hr4
    have HS4 := hid (HS3.out.trans hs4)
    clear hr4 hs4
    go_wp2_with (go_at_call 71; refine (scaled_lt _ _ (by omega) (by omega) _).mono ?_; unfold SomeFl; rintro e w5 ⟨x5, rfl, hx5, hb5⟩; refine Hid.out ?_)
    refine hid ?_
    have HR5 := hid (HR4.out.below hb5)
    have HS5 := hid (step_belowF HS4.out hb5)
    have HX5 := hid hx5
    clear hb5 hx5
    go_wp2
    go_ret
    exact ⟨_, rfl, HX5.out, HR5.out, HS5.out⟩
  · skip
    go_wp2_with (go_at_call 72; refine (d_word _ _ _ _ _ HR2.out).mono ?_; rintro e w3 ⟨v3, rfl, ⟨hv0, hv1⟩, hr3, hs3⟩; refine Hid.out ?_)
    refine hid ?_
    have HR3 := hid hr3
    have HS3 := hid (HS2.out.trans hs3)
    clear hr3 hs3
    go_wp2_with (go_at_call 54; refine (nearF (-1074) 900 (by omega) (by omega) (by omega) _ _ _ _ _ HR3.out (by omega) (by omega)).mono ?_; rintro e w4 ⟨z4, rfl, hz0, hz1, hr4, hs4⟩; refine Hid.out ?_)
    refine hid ?_
    have HR4 := hid hr4
    have HS4 := hid (HS3.out.trans hs4)
    clear hr4 hs4
    go_wp2_with (go_at_call 71; refine (scaled_lt _ _ (by omega) (by omega) _).mono ?_; unfold SomeFl; rintro e w5 ⟨x5, rfl, hx5, hb5⟩; refine Hid.out ?_)
    refine hid ?_
    have HR5 := hid (HR4.out.below hb5)
    have HS5 := hid (step_belowF HS4.out hb5)
    have HX5 := hid hx5
    clear hb5 hx5
    go_wp2
    go_ret
    exact ⟨_, rfl, neg_lt HX5.out, HR5.out, HS5.out⟩
  · go_wp2_with (go_at_call 48; refine (d_below 53 (by omega) _ _ _ _ _ HR2.out).mono ?_; rintro e w3 ⟨u, rfl, ⟨hu0, hu1⟩, hr3, hs3⟩; refine Hid.out ?_)
    refine hid ?_
    have HR3 := hid hr3
    have HS3 := hid (HS2.out.trans hs3)
    have hu2 : u < 53 := hu1 (by omega)
    clear hr3 hs3 hu1
    go_wp2_with (go_at_call 54; refine (nearF (-1074) 900 (by omega) (by omega) (by omega) _ _ _ _ _ HR3.out (by omega) (by omega)).mono ?_; rintro e w4 ⟨z4, rfl, hz0, hz1, hr4, hs4⟩; refine Hid.out ?_)
    refine hid ?_
    have HR4 := hid hr4
    have HS4 := hid (HS3.out.trans hs4)
    clear hr4 hs4
    go_wp2_with (go_at_call 71; refine (scaled_lt _ _ (by omega) (by omega) _).mono ?_; unfold SomeFl; rintro e w5 ⟨x5, rfl, hx5, hb5⟩; refine Hid.out ?_)
    refine hid ?_
    have HR5 := hid (HR4.out.below hb5)
    have HS5 := hid (step_belowF HS4.out hb5)
    have HX5 := hid hx5
    clear hb5 hx5
    go_wp2
    go_ret
    exact ⟨_, rfl, HX5.out, HR5.out, HS5.out⟩
  · have n0 : (k == 0) = false := by simp; omega
    have n1 : (k == 1) = false := by simp; omega
    have n2 : (k == 2) = false := by simp; omega
    have n3 : (k == 3) = false := by simp; omega
    have n4 : (k == 4) = false := by simp; omega
    have n5 : (k == 5) = false := by simp; omega
    clear hk
    go_wp2_with (go_at_call 54; refine (nearF (-50) 50 (by omega) (by omega) (by omega) _ _ _ _ _ HR2.out (by omega) (by omega)).mono ?_; rintro e w3 ⟨z3, rfl, hz0, hz1, hr3, hs3⟩; refine Hid.out ?_)
    refine hid ?_
    have HR3 := hid hr3
    have HS3 := hid (HS2.out.trans hs3)
    clear hr3 hs3
    go_wp2
    go_ret
    exact ⟨_, rfl, fb_lt _ _ _ _, rd_fw HR3.out _ _ _, step_fw HS3.out _ _ _⟩
end Go.Proofs.Ythpnlhbfginkjaa
