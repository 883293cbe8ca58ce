/- Overlap, the specification's. -/
import Derived.Test.YtpecdbgbiecdgaaOverBoth
namespace Go.Proofs.Ytpecdbgbiecdgaa
open Go.RowKit
open Go.Lib (hid)

set_option maxRecDepth 20000 in
set_option maxHeartbeats 4000000 in
theorem over_spec (l h : List Nat) (hn : l.length ≤ 1048576) (hm : h.length ≤ 1048576) (a b : Value) (w : World) (ha : RowFl w a l) (hb : RowFl w b h) :
    Calls Try.prog 53 #[a, b] w (OvPost l h w) := by
  unfold OvPost
  obtain ⟨p, c, rfl, _, hp⟩ := ha
  obtain ⟨q, d, rfl, _, hq⟩ := hb
  have HP := hid hp
  have HQ := hid hq
  clear hp hq
  by_cases hs : 1 ≤ l.length ∧ l.length ≤ 100 ∧ h.length = l.length
  · have HT := hid (fun h1 h2 => ov_test (l := l) (h := h) hs h1 h2)
    have HU := hid (fun k => ov_unclean (l := l) (h := h) k)
    obtain ⟨s1, s2, s3⟩ := hs
    have HE := hid s3
    have hl : 0 < l.length := s1
    have hh : 0 < h.length := by omega
    have hle : l.length ≤ h.length := by omega
    have t1 : ¬ (l.length : Int) < 1 := by omega
    have t3 : ((h.length : Int) != (l.length : Int)) = false := by rw [s3]; simp
    clear s3
    have z1 : (0 : Int) < (l.length : Int) := by omega
    have z2 : (0 : Int) < (h.length : Int) := by omega
    obtain ⟨g, o, rfl, hg, hc⟩ := HP.out (fun k => by rw [k] at hl; cases hl)
    obtain ⟨g2, o2, rfl, hg2, hc2⟩ := HQ.out (fun k => by rw [k] at hh; cases hh)
    have k1 := hc 0 hl
    have k2 := hc2 0 hh
    rw [Nat.add_zero] at k1 k2
    have H1 : Hid (mx l 0 = l[0]) := hid (by show l.getD 0 0 = _; simp [List.getD, hl])
    have H2 : Hid (mn h 0 = h[0]) := hid (by show h.getD 0 0 = _; simp [List.getD, hh])
    have HC := hid hc
    have HC2 := hid hc2
    clear hc hc2
    generalize l[0] = y0 at *
    generalize h[0] = y1 at *
    go_enter Try.func53, Try.ntmps53
    go_wp2
    clear k1 k2
    go_loopw [7, 8, 9] (fun lv hv iv wr => ∃ i : Nat, i ≤ l.length ∧ iv = .int .i64 i ∧ lv = .float .f64 (mx l i) ∧ hv = .float .f64 (mn h i) ∧ Hid (Below w.heap.size w wr) ∧ Hid (∀ j (hj : j < l.length) (hj2 : j < h.length), j < i → nanB l[j] = false ∧ nanB h[j] = false)) (fun _ _ iv _ => l.length - (RowKit.intOf iv).toNat)
    case atStart => exact ⟨0, Nat.zero_le _, rfl, by rw [H1.out], by rw [H2.out], hid (Below.refl _ _), hid (fun j _ _ h => absurd h (Nat.not_lt_zero _))⟩
    case round =>
      obtain ⟨i, hi, rfl, rfl, rfl, HB, HR⟩ := hrel
      by_cases hlt : i < l.length
      · have hlt2 : i < h.length := by omega
        have b1 : (0 : Int) ≤ (i : Int) := by omega
        have b2 : (i : Int) < (l.length : Int) := by omega
        have b3 : (i : Int) < (h.length : Int) := by omega
        have k1 : wr.cell? ⟨g, o + i, none⟩ = some (.float .f64 l[i]) := (HB.out.cell (p := ⟨g, o + i, none⟩) hg).trans (HC.out i hlt)
        have k2 : wr.cell? ⟨g2, o2 + i, none⟩ = some (.float .f64 h[i]) := (HB.out.cell (p := ⟨g2, o2 + i, none⟩) hg2).trans (HC2.out i hlt2)
        cases q1 : nanB l[i] with
        | true =>
          have HZ := hid (HU.out (.inl (clean_no hlt q1)))
          have e1 : (FloatKind.f64.format.order l[i] l[i] != some .eq) = true := by rw [ord_nan q1 l[i]]; rfl
          generalize l[i] = x at *
          generalize h[i] = y at *
          go_wp2
          go_quiet (fail)
          go_wp2
          exact bodyPost_ret (v := .tuple #[.float .f64 0, .float .f64 0, .bool false]) (by simp [results, Try.results53, go_sem]) rfl ⟨by rw [HZ.out, (ov_none HZ.out).1, (ov_none HZ.out).2], drewN_below HB.out _⟩
        | false =>
          have e1 : (FloatKind.f64.format.order l[i] l[i] != some .eq) = false := by rw [ord_self q1]; rfl
          have HQ1 := hid q1
          cases q2 : nanB h[i] with
          | true =>
            have HZ := hid (HU.out (.inr (clean_no hlt2 q2)))
            have e2 : (FloatKind.f64.format.order h[i] h[i] != some .eq) = true := by rw [ord_nan q2 h[i]]; rfl
            generalize l[i] = x at *
            generalize h[i] = y at *
            go_wp2
            go_quiet (fail)
            go_wp2
            exact bodyPost_ret (v := .tuple #[.float .f64 0, .float .f64 0, .bool false]) (by simp [results, Try.results53, go_sem]) rfl ⟨by rw [HZ.out, (ov_none HZ.out).1, (ov_none HZ.out).2], drewN_below HB.out _⟩
          | false =>
            have e2 : (FloatKind.f64.format.order h[i] h[i] != some .eq) = false := by rw [ord_self q2]; rfl
            have HQ2 := hid q2
            have HR2 : Hid (∀ j (hj : j < l.length) (hj2 : j < h.length), j < i + 1 → nanB l[j] = false ∧ nanB h[j] = false) := hid (fun j hj hj2 hji => (Nat.lt_or_ge j i).elim (fun h => HR.out j hj hj2 h) (fun h => by have e : j = i := (by omega); subst e; exact ⟨HQ1.out, HQ2.out⟩))
            have M1 := hid (fun k => mx_yes hlt k)
            have M2 := hid (fun k => mx_no hlt k)
            have N1 := hid (fun k => mn_yes hlt2 k)
            have N2 := hid (fun k => mn_no hlt2 k)
            clear HR HQ1 HQ2 q1 q2
            generalize mx l i = m at *
            generalize mn h i = n at *
            generalize l[i] = x at *
            generalize h[i] = y at *
            by_cases g1 : FloatKind.f64.format.order x m = some .gt
            · have G1 := hid (M1.out g1)
              by_cases g2 : FloatKind.f64.format.order y n = some .lt
              · have G2 := hid (N1.out g2)
                go_wp2
                go_quiet (fail)
                go_wp2
                go_roundw
                case rel => exact ⟨i + 1, by omega, by go_num, by rw [G1.out], by rw [G2.out], hid (drewN_below HB.out _), HR2⟩
                case measure => simp [RowKit.intOf]; omega
              · have G2 := hid (N2.out g2)
                have f2 : (FloatKind.f64.format.order y n == some .lt) = false := by simpa using g2
                clear g2
                go_wp2
                go_quiet (fail)
                go_wp2
                go_roundw
                case rel => exact ⟨i + 1, by omega, by go_num, by rw [G1.out], by rw [G2.out], hid (drewN_below HB.out _), HR2⟩
                case measure => simp [RowKit.intOf]; omega
            · have G1 := hid (M2.out g1)
              have f1 : (FloatKind.f64.format.order x m == some .gt) = false := by simpa using g1
              clear g1
              by_cases g2 : FloatKind.f64.format.order y n = some .lt
              · have G2 := hid (N1.out g2)
                go_wp2
                go_quiet (fail)
                go_wp2
                go_roundw
                case rel => exact ⟨i + 1, by omega, by go_num, by rw [G1.out], by rw [G2.out], hid (drewN_below HB.out _), HR2⟩
                case measure => simp [RowKit.intOf]; omega
              · have G2 := hid (N2.out g2)
                have f2 : (FloatKind.f64.format.order y n == some .lt) = false := by simpa using g2
                clear g2
                go_wp2
                go_quiet (fail)
                go_wp2
                go_roundw
                case rel => exact ⟨i + 1, by omega, by go_num, by rw [G1.out], by rw [G2.out], hid (drewN_below HB.out _), HR2⟩
                case measure => simp [RowKit.intOf]; omega
      · have hie : i = l.length := by omega
        subst hie
        have h1 : cleanB l = true := clean_all (fun j hj => (HR.out j hj (by omega) hj).1)
        have h2 : cleanB h = true := clean_all (fun j hj => (HR.out j (by have := HE.out; omega) hj (by have := HE.out; omega)).2)
        have HZ := hid (HT.out h1 h2)
        have HEn : Hid (mn h l.length = mn h h.length) := hid (by rw [HE.out])
        rw [← HEn.out] at HZ
        cases h3 : (FloatKind.f64.format.order (mx l l.length) (mn h l.length) == some .gt) with
        | true =>
          have HY : Hid (ovB l h = false) := hid (by rw [HZ.out, h3]; rfl)
          go_wp2
          exact bodyPost_ret (v := .tuple #[.float .f64 0, .float .f64 0, .bool false]) (by simp [results, Try.results53, go_sem]) rfl ⟨by rw [HY.out, (ov_none HY.out).1, (ov_none HY.out).2], HB.out⟩
        | false =>
          have HY : Hid (ovB l h = true) := hid (by rw [HZ.out, h3]; rfl)
          go_wp2
          exact bodyPost_ret (v := .tuple #[.float .f64 (mx l l.length), .float .f64 (mn h l.length), .bool true]) (by simp [results, Try.results53, go_sem]) rfl ⟨by rw [HY.out, (ov_some HY.out).1, (ov_some HY.out).2, HEn.out], HB.out⟩
  · have HZ := hid (ov_size hs)
    rw [HZ.out, (ov_none HZ.out).1, (ov_none HZ.out).2]
    by_cases s1 : 1 ≤ l.length
    · have t1 : ¬ (l.length : Int) < 1 := by omega
      by_cases s2 : l.length ≤ 100
      · have t3 : ((h.length : Int) != (l.length : Int)) = true := by
          have : h.length ≠ l.length := fun k => hs ⟨s1, s2, k⟩
          simp
          omega
        clear hs
        go_enter Try.func53, Try.ntmps53
        go_wp2
        exact bodyPost_ret (v := .tuple #[.float .f64 0, .float .f64 0, .bool false]) (by simp [results, Try.results53, go_sem]) rfl ⟨rfl, Below.refl _ _⟩
      · clear hs
        go_enter Try.func53, Try.ntmps53
        go_wp2
        exact bodyPost_ret (v := .tuple #[.float .f64 0, .float .f64 0, .bool false]) (by simp [results, Try.results53, go_sem]) rfl ⟨rfl, Below.refl _ _⟩
    · have t1 : (l.length : Int) < 1 := by omega
      clear hs
      go_enter Try.func53, Try.ntmps53
      go_wp2
      exact bodyPost_ret (v := .tuple #[.float .f64 0, .float .f64 0, .bool false]) (by simp [results, Try.results53, go_sem]) rfl ⟨rfl, Below.refl _ _⟩
end Go.Proofs.Ytpecdbgbiecdgaa
